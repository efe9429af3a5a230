import Derived.Test.YtghcfcglakbkeaaGreatDoorEbe
import Derived.Test.YtghcfcglakbkeaaGreatDoorSkez
namespace Go.Proofs.YtghcfcglakbkeaaGreatDoor
open Go.RowKit
set_option linter.unusedVariables false
set_option linter.unusedSimpArgs false
open Cm (Wr Tm co bf Ls lf ins Eqm)
namespace Ci
set_option maxRecDepth 100000
set_option maxHeartbeats 8000000
def muE (m K : Nat) (Q : List (List Tm)) (A B : List Tm) : Int := if wkB m K A = true ∧ wkB m K B = true then (if K < 1024 ∧ Q.length ≤ 4094 then 0 else 201) else 200
def muV (m K : Nat) (Q : List (List Tm)) (A B : List Tm) : Value := if muE m K Q A B = 0 then tup 2 K 3 K 4 K 0 else tup 0 0 0 0 0 0 (muE m K Q A B)
def muK (m K : Nat) (Q : List (List Tm)) (A B : List Tm) : Nat := if muE m K Q A B = 0 then K + 1 else K
def muX (k : Int) (K : Nat) (A : List Tm) : List Tm := lf Sm.L ([((k, (K : Int)), 1)] ++ lf Sm.L (sc (-1) A))
def muQ (m K : Nat) (Q : List (List Tm)) (A B : List Tm) : List (List Tm) := if muE m K Q A B = 0 then Q ++ [muX 2 K A, muX 3 K B] else Q
def Gp (s m K : Nat) (Q : List (List Tm)) (v : Value) (vs : List Value) (x y : World) : Prop := ∃ v' us, Sy 0 y s m K v' (vs ++ us) Q ∧ Fz s v x y ∧ (∀ k, v'.ownBlock = some k → v.ownBlock = some k ∨ x.heap.size ≤ k) ∧ ∀ u ∈ us, ∀ k, u.ownBlock = some k → x.heap.size ≤ k
def Gdd (s m K : Nat) (Q : List (List Tm)) (v : Value) (x y : World) : Prop := ∃ v' vs', Dy 0 y s m K v' vs' Q ∧ Fz s v x y ∧ ∀ k, v'.ownBlock = some k → v.ownBlock = some k ∨ x.heap.size ≤ k
theorem fz_bl {s : Nat} {v : Value} {x y : World} (h : Below x.heap.size x y) : Fz s v x y := ⟨h.os, h.tape, h.output, h.size, fun i hi _ _ => h.block i hi⟩
section
variable {s m K : Nat} {v : Value} {vs : List Value} {Q : List (List Tm)} {x y : World}
theorem Gp.bl (h : Sy 0 x s m K v vs Q) (hb : Below x.heap.size x y) : Gp s m K Q v vs x y := ⟨v, [], by rw [List.append_nil]; exact h.keep hb, fz_bl hb, fun k hk => .inl hk, fun u hu => (by cases hu)⟩
theorem Gdd.bl (h : Dy 0 x s m K v vs Q) (hb : Below x.heap.size x y) : Gdd s m K Q v x y := ⟨v, vs, h.keep hb, fz_bl hb, fun k hk => .inl hk⟩
theorem pGateE (h : Sy 0 x s m K v vs Q) :
  Calls Tryz.prog 23 #[.pointer (some ⟨s, 0, none⟩)] x fun e y => e = .returned (gtV K) ∧ Gp s m (gtK K) Q v vs x y := by
 unfold gtV gtK
 by_cases hK : K < 1024
 ·rw [if_pos hK, if_pos hK]
  exact (Gate_ok h hK).mono fun e y ⟨a, b, c⟩ => ⟨a, v, [], by rw [List.append_nil]; exact b, Fz.gr c, fun k hk => .inl hk, fun u hu => (by cases hu)⟩
 ·rw [if_neg hK, if_neg hK]
  exact (Gate_full h (by omega)).mono fun e y ⟨a, b⟩ => ⟨a, Gp.bl h b⟩
theorem dGateE (h : Dy 0 x s m K v vs Q) :
  Calls Tryz.prog 16 #[.pointer (some ⟨s, 0, none⟩)] x fun e y => e = .returned (gtV K) ∧ Gdd s m (gtK K) Q v x y := by
 unfold gtV gtK
 by_cases hK : K < 1024
 ·rw [if_pos hK, if_pos hK]
  exact (dGate_ok h hK).mono fun e y ⟨a, b, c⟩ => ⟨a, v, vs, b, Fz.gr c, fun k hk => .inl hk⟩
 ·rw [if_neg hK, if_neg hK]
  exact (dGate_full h (by omega)).mono fun e y ⟨a, b⟩ => ⟨a, Gdd.bl h b⟩
theorem pReqE (h : Sy 0 x s m K v vs Q) (hT : Tb x) (P : Option Addr) (n c : Nat) (f : Nat → Trm) (hn : n ≤ 2932031007402) (hf : ∀ k, k < n → (f k).a.ok) (hL : Lt x P n f) :
  Calls Tryz.prog 27 #[.pointer (some ⟨s, 0, none⟩), .slice P n c] x fun e y => e = .returned (.int .i64 (rqE m K Q (lf Sm.L (glL n f)))) ∧ Gp s m K (rqQ m K Q (lf Sm.L (glL n f))) v vs x y := by
 by_cases hw : nm m K (lf Sm.L (glL n f)).length (ft (lf Sm.L (glL n f))) = true
 ·by_cases hq : Q.length < 4096
  ·have e : rqE m K Q (lf Sm.L (glL n f)) = 0 := by unfold rqE; rw [if_pos hw, if_pos hq]
   have e2 : rqQ m K Q (lf Sm.L (glL n f)) = Q ++ [lf Sm.L (glL n f)] := by unfold rqQ; rw [if_pos e]
   rw [e, e2]
   exact (Require_okA h hT P n c f hn hf hL hw hq).mono fun e y ⟨a, v', u, b, c, hu, d⟩ => ⟨a, v', [u], b, c, d, fun z hz => by rw [List.mem_singleton.1 hz]; exact hu⟩
  ·have e : rqE m K Q (lf Sm.L (glL n f)) = 201 := by unfold rqE; rw [if_pos hw, if_neg hq]
   rw [rq_same (by rw [e]; decide), e]
   exact (Require_full h hT P n c f hn hf hL hw (by omega)).mono fun e w' ⟨a, b⟩ => ⟨a, Gp.bl h b⟩
 ·have e : rqE m K Q (lf Sm.L (glL n f)) = 200 := by unfold rqE; rw [if_neg hw]
  rw [rq_same (by rw [e]; decide), e]
  exact (Require_wire h hT P n c f hn hf hL (by cases hh : nm m K (lf Sm.L (glL n f)).length (ft (lf Sm.L (glL n f))) <;> simp_all)).mono fun e w' ⟨a, b⟩ => ⟨a, Gp.bl h b⟩
theorem dReqE (h : Dy 0 x s m K v vs Q) (P : Option Addr) (c : Nat) (Y : List Tm) (hn : Y.length ≤ 2932031007400) (hL : Lt x P Y.length (ft Y)) :
  Calls Tryz.prog 19 #[.pointer (some ⟨s, 0, none⟩), .slice P Y.length c] x fun e y => e = .returned (.int .i64 (rqE m K Q (lf Sm.L Y))) ∧ Gdd s m K (rqQ m K Q (lf Sm.L Y)) v x y := by
 by_cases hw : nm m K (lf Sm.L Y).length (ft (lf Sm.L Y)) = true
 ·by_cases hq : Q.length < 4096
  ·have e : rqE m K Q (lf Sm.L Y) = 0 := by unfold rqE; rw [if_pos hw, if_pos hq]
   have e2 : rqQ m K Q (lf Sm.L Y) = Q ++ [lf Sm.L Y] := by unfold rqQ; rw [if_pos e]
   rw [e, e2]
   exact (dRequire_okA h P c Y hn hL hw hq).mono fun e y ⟨a, v', u, b, c, d⟩ => ⟨a, v', _, b, c, d⟩
  ·have e : rqE m K Q (lf Sm.L Y) = 201 := by unfold rqE; rw [if_pos hw, if_neg hq]
   rw [rq_same (by rw [e]; decide), e]
   exact (dRequire_full h P c Y hn hL hw (by omega)).mono fun e w' ⟨a, b⟩ => ⟨a, Gdd.bl h b⟩
 ·have e : rqE m K Q (lf Sm.L Y) = 200 := by unfold rqE; rw [if_neg hw]
  rw [rq_same (by rw [e]; decide), e]
  exact (dRequire_wire h P c Y hn hL (by cases hh : nm m K (lf Sm.L Y).length (ft (lf Sm.L Y)) <;> simp_all)).mono fun e w' ⟨a, b⟩ => ⟨a, Gdd.bl h b⟩
theorem mu_wireA {A B : List Tm} (h : wkB m K A = false) : muE m K Q A B = 200 := by unfold muE; rw [if_neg (by simp [h])]
theorem mu_wireB {A B : List Tm} (h : wkB m K B = false) : muE m K Q A B = 200 := by unfold muE; rw [if_neg (by simp [h])]
theorem mu_full {A B : List Tm} (ha : wkB m K A = true) (hb : wkB m K B = true) (h : 1024 ≤ K ∨ 4094 < Q.length) : muE m K Q A B = 201 := by
 unfold muE; rw [if_pos ⟨ha, hb⟩, if_neg (by omega)]
theorem mu_bad {A B : List Tm} {z : Int} (h : muE m K Q A B = z) (hz : z ≠ 0) : muV m K Q A B = tup 0 0 0 0 0 0 z ∧ muK m K Q A B = K ∧ muQ m K Q A B = Q := by
 unfold muV muK muQ
 rw [h]
 rw [if_neg hz, if_neg hz, if_neg hz]
 exact ⟨rfl, rfl, rfl⟩
theorem mu_ok {A B : List Tm} (ha : wkB m K A = true) (hb : wkB m K B = true) (hK : K < 1024) (hq : Q.length ≤ 4094) : muV m K Q A B = tup 2 K 3 K 4 K 0 ∧ muK m K Q A B = K + 1 ∧ muQ m K Q A B = Q ++ [muX 2 K A, muX 3 K B] := by
 have h : muE m K Q A B = 0 := by unfold muE; rw [if_pos ⟨ha, hb⟩, if_pos ⟨hK, hq⟩]
 unfold muV muK muQ
 rw [h]
 rw [if_pos rfl, if_pos rfl, if_pos rfl]
 exact ⟨rfl, rfl, rfl⟩
theorem muX_p (k : Int) (n : Nat) (f : Nat → Trm) : lf Sm.L (glL 1 (cst (k, (K : Int))) ++ glN n f) = muX k K (glL n f) := by
 unfold muX
 rw [glL_one, sub_isD]
theorem pMulE (h : Sy 0 x s m K v vs Q) (hT : Tb x) (Pa Pb : Option Addr) (na ca nb cb : Nat) (fa fb : Nat → Trm) (hna : na ≤ 2932031007401) (hnb : nb ≤ 2932031007401) (hfa : ∀ k, k < na → (fa k).a.ok) (hfb : ∀ k, k < nb → (fb k).a.ok) (ha : Lt x Pa na fa) (hb : Lt x Pb nb fb) :
  Calls Tryz.prog 24 #[.pointer (some ⟨s, 0, none⟩), .slice Pa na ca, .slice Pb nb cb] x fun e y => e = .returned (muV m K Q (glL na fa) (glL nb fb)) ∧ Gp s m (muK m K Q (glL na fa) (glL nb fb)) (muQ m K Q (glL na fa) (glL nb fb)) v vs x y := by
 cases wa : wkB m K (glL na fa) with
 | false =>
  obtain ⟨e1, e2, e3⟩ := mu_bad (mu_wireA (Q := Q) (B := glL nb fb) wa) (by decide)
  rw [e1, e2, e3]
  exact (Multiply_wireA h hT Pa Pb na ca nb cb fa fb hna hnb hfa hfb ha hb wa).mono fun e w' ⟨a, b⟩ => ⟨a, Gp.bl h b⟩
 | true =>
  cases wb : wkB m K (glL nb fb) with
  | false =>
   obtain ⟨e1, e2, e3⟩ := mu_bad (mu_wireB (Q := Q) (A := glL na fa) wb) (by decide)
   rw [e1, e2, e3]
   exact (Multiply_wireB h hT Pa Pb na ca nb cb fa fb hna hnb hfa hfb ha hb wa wb).mono fun e w' ⟨a, b⟩ => ⟨a, Gp.bl h b⟩
  | true =>
   by_cases hq : 4094 < Q.length
   ·obtain ⟨e1, e2, e3⟩ := mu_bad (mu_full (Q := Q) wa wb (.inr hq)) (by decide)
    rw [e1, e2, e3]
    exact (Multiply_full2 h hT Pa Pb na ca nb cb fa fb hna hnb hfa hfb ha hb wa wb hq).mono fun e w' ⟨a, b⟩ => ⟨a, Gp.bl h b⟩
   ·by_cases hK : K < 1024
    ·obtain ⟨e1, e2, e3⟩ := mu_ok (Q := Q) wa wb hK (by omega)
     rw [e1, e2, e3, ← muX_p, ← muX_p]
     exact (Multiply_okA h hT Pa Pb na ca nb cb fa fb hna hnb hfa hfb ha hb wa wb (by omega) hK).mono fun e y ⟨a, v', u1, u2, b, c, d, hu⟩ => ⟨a, v', [u1, u2], b, c, d, hu⟩
    ·obtain ⟨e1, e2, e3⟩ := mu_bad (mu_full (Q := Q) wa wb (.inl (by omega))) (by decide)
     rw [e1, e2, e3]
     exact (Multiply_full1 h hT Pa Pb na ca nb cb fa fb hna hnb hfa hfb ha hb wa wb (by omega) (by omega)).mono fun e w' ⟨a, b⟩ => ⟨a, Gp.bl h b⟩
theorem dMulE (h : Dy 0 x s m K v vs Q) (Pa Pb : Option Addr) (ca cb : Nat) (A B : List Tm) (hna : A.length ≤ 1048576) (hnb : B.length ≤ 1048576) (ha : x.ownsRow 0 116 6 (.slice Pa A.length ca) A.length (tls A)) (hb : x.ownsRow 0 116 6 (.slice Pb B.length cb) B.length (tls B)) :
  Calls Tryz.prog 17 #[.pointer (some ⟨s, 0, none⟩), .slice Pa A.length ca, .slice Pb B.length cb] x fun e y => e = .returned (muV m K Q A B) ∧ Gdd s m (muK m K Q A B) (muQ m K Q A B) v x y := by
 cases wa : wkB m K A with
 | false =>
  obtain ⟨e1, e2, e3⟩ := mu_bad (mu_wireA (Q := Q) (B := B) wa) (by decide)
  rw [e1, e2, e3]
  exact (dMultiply_wireA h Pa Pb ca cb A B (by omega) (by omega) (own_lts ha) (own_lts hb) wa).mono fun e w' ⟨a, b⟩ => ⟨a, Gdd.bl h b⟩
 | true =>
  cases wb : wkB m K B with
  | false =>
   obtain ⟨e1, e2, e3⟩ := mu_bad (mu_wireB (Q := Q) (A := A) wb) (by decide)
   rw [e1, e2, e3]
   exact (dMultiply_wireB h Pa Pb ca cb A B (by omega) (by omega) (own_lts ha) (own_lts hb) wa wb).mono fun e w' ⟨a, b⟩ => ⟨a, Gdd.bl h b⟩
  | true =>
   by_cases hK : K < 1024
   ·by_cases hq : 4094 < Q.length
    ·obtain ⟨e1, e2, e3⟩ := mu_bad (mu_full (Q := Q) wa wb (.inr hq)) (by decide)
     rw [e1, e2, e3]
     exact (dMultiply_full2 h Pa Pb ca cb A B (by omega) (by omega) (own_lts ha) (own_lts hb) wa wb ⟨hK, hq⟩).mono fun e w' ⟨a, b⟩ => ⟨a, Gdd.bl h b⟩
    ·obtain ⟨e1, e2, e3⟩ := mu_ok (Q := Q) wa wb hK (by omega)
     rw [e1, e2, e3]
     exact (dMultiply_okA h Pa Pb ca cb A B hna hnb ha hb wa wb (by omega) hK).mono fun e y ⟨a, v', u1, u2, b, c, d⟩ => ⟨a, v', _, b, c, d⟩
   ·obtain ⟨e1, e2, e3⟩ := mu_bad (mu_full (Q := Q) wa wb (.inl (by omega))) (by decide)
    rw [e1, e2, e3]
    exact (dMultiply_full1 h Pa Pb ca cb A B (by omega) (by omega) (own_lts ha) (own_lts hb) wa wb (by omega)).mono fun e w' ⟨a, b⟩ => ⟨a, Gdd.bl h b⟩
theorem okY_mu {na nb : Nat} {fa fb : Nat → Trm} (h : okY m K Q) (la : na ≤ 2932031007401) (lb : nb ≤ 2932031007401) : okY m (muK m K Q (glL na fa) (glL nb fb)) (muQ m K Q (glL na fa) (glL nb fb)) := by
 by_cases e : muE m K Q (glL na fa) (glL nb fb) = 0
 ·have h1 : wkB m K (glL na fa) = true ∧ wkB m K (glL nb fb) = true := by
   unfold muE at e
   split at e
   ·assumption
   ·cases e
  have h2 : K < 1024 ∧ Q.length ≤ 4094 := by
   unfold muE at e
   rw [if_pos h1] at e
   split at e
   ·assumption
   ·cases e
  obtain ⟨_, e2, e3⟩ := mu_ok (Q := Q) h1.1 h1.2 h2.1 h2.2
  rw [e2, e3]
  refine okY_of ?_ h.1 fun Y hY => ?_
  ·rw [← muX_p, ← muX_p]
   exact (wk_of h).mul h2.1 h2.2 la lb h1.1 h1.2
  ·rcases List.mem_append.1 hY with hY | hY
   ·exact (h.2.2.2.1 Y hY).2.1
   ·simp only [List.mem_cons, List.not_mem_nil, or_false] at hY
    rcases hY with rfl | rfl <;> exact Cm.lf_ls L0 _
 ·unfold muK muQ
  rw [if_neg e, if_neg e]
  exact h
end
end Ci
end Go.Proofs.YtghcfcglakbkeaaGreatDoor
namespace Go.Proofs.YtghcfcglakbkeaaGreatDoor
set_option maxRecDepth 100000
set_option maxHeartbeats 16000000
open Go.RowKit
set_option linter.unusedVariables false
set_option linter.unusedSimpArgs false
open Cm (Wr Tm co bf Ls lf ins Eqm)
namespace Ci
theorem SysClone_newA {base : Nat} {w : World} {s m Kg : Nat} {v : Value} {vs : List Value} {Q : List (List Tm)} (h : Sy base w s m Kg v vs Q) (hq : Q.length ≤ 4096) : Calls Tryz.prog 32 #[.pointer (some ⟨s, 0, none⟩)] w fun e w' => e = .returned (.pointer (some ⟨w.heap.size, 0, none⟩)) ∧ (∃ v', Sy w.heap.size w' w.heap.size m Kg v' vs Q) ∧ Below w.heap.size w w' := by
 have C0 := Hn (none_any h)
 obtain ⟨PQ, cQ, rfl, _, _⟩ := h.shape
 have BA := bl_alloc w (.cells #[.int .i64 (m : Int), .int .i64 (Kg : Int), .slice PQ Q.length cQ, .bool true] 27)
 have C1 := Hn (cloneL_any (w.alloc (.cells #[.int .i64 (m : Int), .int .i64 (Kg : Int), .slice PQ Q.length cQ, .bool true] 27)) (own_keepT h.row BA) hq h.ones)
 have k0 := h.c0
 have k1 := h.c1
 have k2 := h.c2
 have k3 := h.c3
 have HB := Hn BA
 have HH := Hn h
 have hnew := heap_alloc_new w (.cells #[.int .i64 (m : Int), .int .i64 (Kg : Int), .slice PQ Q.length cQ, .bool true] 27)
 have HNW := Hn hnew
 have e2 : (w.alloc (.cells #[.int .i64 (m : Int), .int .i64 (Kg : Int), .slice PQ Q.length cQ, .bool true] 27)).cell? ⟨w.heap.size, 2, none⟩ = some (.slice PQ Q.length cQ) := by go_simp
 have f2 : (w.alloc (.cells #[.int .i64 (m : Int), .int .i64 (Kg : Int), .slice PQ Q.length cQ, .bool true] 27)).frozen? ⟨w.heap.size, 2, none⟩ = false := by go_simp
 have SZ : Hid (w.heap.size < (w.alloc (.cells #[.int .i64 (m : Int), .int .i64 (Kg : Int), .slice PQ Q.length cQ, .bool true] 27)).heap.size) := Hn (by simp)
 have k2n := cell_keep k2 BA
 have HBS := Hn h.bs
 have HLT := Hn h.lt
 clear h BA hq hnew
 generalize hqn : Q.length = nq at *
 have HQN := Hn hqn
 clear hqn
 go_enter Tryz.func32, Tryz.ntmps32
 go_upto_region 3 with (go_at_call 44; refine C0.out.mono ?_; rintro e w1 ⟨rfl, hw1⟩; have hw2 := hw1.symm; clear hw1; subst hw2)
 clear C0
 go_upto_region 4 with fail
 clear k0 k1 k2 k3
 generalize w.alloc (.cells #[.int .i64 (m : Int), .int .i64 (Kg : Int), .slice PQ nq cQ, .bool true] 27) = w2 at *
 go_wp2_with (go_at_call 74; refine C1.out.mono ?_; rintro e w3 ⟨P3, c3, rfl, ho, hb⟩; have HO := Hn ho; have B3 := Hn hb; have e3 := cell_keep e2 hb; have f3 := (hb.frozen (p := ⟨w.heap.size, 2, none⟩) SZ.out).trans f2; clear ho hb e2 f2)
 have hs3 : w3.heap[w.heap.size]? = some (.cells #[.int .i64 (m : Int), .int .i64 (Kg : Int), .slice PQ nq cQ, .bool true] 27 (0, 0)) := (B3.out.block _ SZ.out).trans HNW.out
 have BF : Below w.heap.size w (w3.setCell ⟨w.heap.size, 2, none⟩ (.slice P3 nq c3)) := bl_cell (bl_trans HB.out B3.out) (Nat.le_refl _)
 refine bodyPost_ret (v := .pointer (some ⟨w.heap.size, 0, none⟩)) (by simp [results, Tryz.results32, go_sem]) rfl ⟨rfl, ⟨.slice P3 nq c3, ?_⟩, BF⟩
 have hk := HH.out.keep BF
 refine ⟨?_, ?_, hk.ls, ?_, hk.sm⟩
 ·have := heap_setCell_same w3 w.heap.size 2 _ 27 (.slice P3 nq c3) hs3
  simpa using this
 ·rw [HQN.out]
  exact own_keepS (own_monoT HO.out (by have := HB.out.size; omega)) hs3 (by decide) (gb_cell w3 w.heap.size 2 _)
 ·exact Nat.le_refl _
theorem boxD_run (m Kg : Int) (P1 : Option Addr) (nq c1 : Nat) (w : World) : (Instr.box 97 (.agg #[.int .i64 m, .int .i64 Kg, .slice P1 nq c1])).run Tryz.prog w = .ok (.pointer (some ⟨w.heap.size, 0, none⟩)) (w.alloc (.cells #[.int .i64 m, .int .i64 Kg, .slice P1 nq c1] 97)) := by kernel_rfl
theorem wp_boxD {w : World} {o : Oper} {a : Act} {K : Act → World → Prop} {Q : Exit → Act → World → Prop} (x : Operand) (ho : o.op = .box 97 x) (m Kg : Int) (P1 : Option Addr) (nq c1 : Nat) (hx : a.eval x = .agg #[.int .i64 m, .int .i64 Kg, .slice P1 nq c1]) (h : ∀ (tb : Nat) (wq : World), tb = w.heap.size → wq = w.alloc (.cells #[.int .i64 m, .int .i64 Kg, .slice P1 nq c1] 97) → K (a.put o.dst (.pointer (some ⟨tb, 0, none⟩))) wq) : o.wp Tryz.prog a w K Q := by
 have hr := boxD_run m Kg P1 nq c1 w
 unfold Oper.wp execOp
 simp only [ho, Sem.run_bind, Sem.run_pure, Result.andThen_ok, hx, hr]
 exact h _ _ rfl rfl
theorem Dy.ones {base : Nat} {w : World} {s m Kg : Nat} {v : Value} {vs : List Value} {Q : List (List Tm)} (h : Dy base w s m Kg v vs Q) : ∀ u ∈ vs, u.oneCell' = true := fun u hu => by
 obtain ⟨i, hi, e⟩ := List.mem_iff_getElem.1 hu
 have hl := h.row.1
 have hiq : i < Q.length := by omega
 obtain ⟨u2, h1, h2⟩ := h.ls i (Q[i]) (by simp [hiq])
 rw [List.getElem?_eq_getElem hi, e] at h1
 obtain rfl := Option.some.inj h1
 obtain ⟨P, c, rfl, _⟩ := own_shT h2
 rfl
theorem wp_clD {W w : World} {o : Oper} {a : Act} {K : Act → World → Prop} {Q' : Exit → Act → World → Prop} (s' x : Operand) (ho : o.op = .call { callee := .builtin .append, args := #[s', x], argTypes := #[95, 95] }) {PQ : Option Addr} {nq cQ : Nat} {vs : List Value} (hr : ∃ b0, W.ownsRow b0 72 1 (.slice PQ nq cQ) nq vs) (h1 : ∀ u ∈ vs, u.oneCell' = true) (hq : nq ≤ 4096) (hb : Below W.heap.size W w) (hs : a.eval s' = .slice none 0 0) (hx : a.eval x = .slice PQ nq cQ)
  (hK : ∀ P1 c1 w', w'.ownsRow W.heap.size 72 1 (.slice P1 nq c1) nq vs → Below w.heap.size w w' → K (a.put o.dst (.slice P1 nq c1)) w') : o.wp Tryz.prog a w K Q' := by
 obtain ⟨b0, hr⟩ := hr
 have hl := hr.1
 have hr2 := own_keepT hr hb
 rcases hr.2 with ⟨e1, e2⟩ | ⟨g, c, cur, e1, _⟩
 ·injection e1 with e3 e4 e5
  subst e3 e4 e5
  refine appNil 95 72 lluD llinfoD ho hs hx (fun w' hw => ?_)
  subst hw
  have : vs = [] := List.length_eq_zero_iff.1 (by omega)
  subst this
  exact hK none 0 _ (World.ownsRow_nil _ _ _ _) (Below.refl _ _)
 ·injection e1 with e3 e4 e5
  subst e3 e5
  refine wp_appO s' x 95 ho W.heap.size 72 _ _ 1 24 lluD llinfoD llz0D llz1D llz2D rfl (by decide) (.slice none 0 0) 0 [] hs (World.ownsRow_nil _ _ _ _) ⟨g, 0, none⟩ nq cQ vs hx (by omega) (fun j u hu => hr2.cells (g := g) rfl j u hu) h1 (by unfold maxLen; omega) (by omega) hb.size (fun v' w' ho' hg' => ?_)
  rw [Nat.zero_add, List.nil_append] at ho'
  obtain ⟨P4, c4, rfl⟩ := own_sh1 ho'
  exact hK P4 c4 w' ho' ⟨hg'.g.os, hg'.g.tape, hg'.g.output, hg'.g.size, fun i hi => hg'.g.block i hi (by simp [Value.ownBlock])⟩
def pEbg0 : String := "circuit.go:197"
def dcl1o_0 : Oper := oO 3 (Op.move (Operand.tmp 0)) 47 pEbg0 #[]
def dcl1o_1 : Oper := oO 4 (Op.nilCheck (Operand.tmp 3)) 0 pEbg0 #[DD 0]
def dcl1o_2 : Oper := oO 5 (Op.fieldAddr 97 (Operand.tmp 4) 0) 0 pEbg0 #[DD 1]
def dcl1o_3 : Oper := oO 6 (Op.load 3 (Operand.tmp 5)) 3 pEbg0 #[DD 2]
def dcl1o_4 : Oper := oO 7 (Op.move (Operand.tmp 0)) 47 pEbg0 #[]
def dcl1o_5 : Oper := oO 8 (Op.nilCheck (Operand.tmp 7)) 0 pEbg0 #[DD 4]
def dcl1o_6 : Oper := oO 9 (Op.fieldAddr 97 (Operand.tmp 8) 1) 0 pEbg0 #[DD 5]
def dcl1o_7 : Oper := oO 10 (Op.load 3 (Operand.tmp 9)) 3 pEbg0 #[DD 6]
def dcl1o_8 : Oper := oO 11 (Op.move (Operand.tmp 0)) 47 pEbg0 #[]
def dcl1o_9 : Oper := oO 12 (Op.nilCheck (Operand.tmp 11)) 0 pEbg0 #[DD 8]
def dcl1o_10 : Oper := oO 13 (Op.fieldAddr 97 (Operand.tmp 12) 2) 0 pEbg0 #[DD 9]
def dcl1o_11 : Oper := oO 14 (Op.load 95 (Operand.tmp 13)) 95 pEbg0 #[DD 10]
def dcl1o_12 : Oper := oO 15 (Op.call { callee := Callee.builtin Builtin.append, args := #[Operand.const (Value.slice none 0 0), Operand.tmp 14], argTypes := #[95, 95] }) 95 pEbg0 #[DD 11]
def dcl1o_13 : Oper := oO 16 (Op.build 97 #[(0, Operand.tmp 6), (1, Operand.tmp 10), (2, Operand.tmp 15)]) 97 pEbg0 #[DD 3, DD 7, DD 12]
def dcl1o_14 : Oper := oO 17 (Op.box 97 (Operand.tmp 16)) 47 pEbg0 #[DD 13]
def dcl1o_15 : Oper := oO 2 (Op.assign (Operand.tmp 17)) 47 pEbg0 #[DD 14, CH 12, PH 0, PH 1, PH 2, PH 3, PH 4, PH 5, PH 6, PH 7, PH 8, PH 9, PH 10, PH 11, PH 12, PH 13, PH 14]
def dcl1o : Array Oper := #[dcl1o_0, dcl1o_1, dcl1o_2, dcl1o_3, dcl1o_4, dcl1o_5, dcl1o_6, dcl1o_7, dcl1o_8, dcl1o_9, dcl1o_10, dcl1o_11, dcl1o_12, dcl1o_13, dcl1o_14, dcl1o_15]
theorem dcl1 (Q : Exit → Act → World → Prop) (s m Kg nq cQ : Nat) (PQ : Option Addr) (vs : List Value) (u1 u2 u3 u4 u5 u6 u7 u8 u9 u10 u11 u12 u13 u14 u15 u16 u17 : Value) (W : World)
  (c0 : W.cell? ⟨s, 0, none⟩ = some (.int .i64 (m : Int))) (c1x : W.cell? ⟨s, 1, none⟩ = some (.int .i64 (Kg : Int))) (c2 : W.cell? ⟨s, 2, none⟩ = some (.slice PQ nq cQ))
  (HROW : Hid (∃ b0, W.ownsRow b0 72 1 (.slice PQ nq cQ) nq vs)) (HONE : Hid (∀ u ∈ vs, u.oneCell' = true)) (HQ2 : Hid (nq ≤ 4096))
  (HQ : Hid (∀ (wz : World) (P1 : Option Addr) (c1 sb : Nat), Below W.heap.size W wz → (wz.heap[sb]? = some (.cells #[.int .i64 (m : Int), .int .i64 (Kg : Int), .slice P1 nq c1] 97 (0, 0)) ∧ wz.ownsRow W.heap.size 72 1 (.slice P1 nq c1) nq vs ∧ W.heap.size ≤ sb) → Q .normal ⟨#[.pointer (some ⟨s, 0, none⟩), u1, .pointer (some ⟨sb, 0, none⟩), .pointer (some ⟨s, 0, none⟩), .pointer (some ⟨s, 0, none⟩), .pointer (some ⟨s, 0, none⟩), .int .i64 (m : Int), .pointer (some ⟨s, 0, none⟩), .pointer (some ⟨s, 0, none⟩), .pointer (some ⟨s, 1, none⟩), .int .i64 (Kg : Int), .pointer (some ⟨s, 0, none⟩), .pointer (some ⟨s, 0, none⟩), .pointer (some ⟨s, 2, none⟩), .slice PQ nq cQ, .slice P1 nq c1, .agg #[.int .i64 (m : Int), .int .i64 (Kg : Int), .slice P1 nq c1], .pointer (some ⟨sb, 0, none⟩)], []⟩ wz)) : (Code.region 1 dcl1o true).wp Tryz.prog Q ⟨#[.pointer (some ⟨s, 0, none⟩), u1, u2, u3, u4, u5, u6, u7, u8, u9, u10, u11, u12, u13, u14, u15, u16, u17], []⟩ W := by
 unfold dcl1o
 refine wp_region_noPanic ?_
 refine wp_region_held_drew (S := fun x => Below W.heap.size W x) (by kernel_rfl) (bl_drew W) (fun hH0 => ?_)
 refine tj 0 dcl1o_0 (.pointer (some ⟨s, 0, none⟩)) hH0 (fun w0 hSw => ?_) ?_
 ·(unfold dcl1o_0 oO; clear hSw; go_simp)
 simp only [dcl1o_0, oO, Act.put, sA, sB, sC]
 refine tj 4 dcl1o_4 (.pointer (some ⟨s, 0, none⟩)) hH0 (fun w0 hSw => ?_) ?_
 ·(unfold dcl1o_4 oO; clear hSw; go_simp)
 simp only [dcl1o_4, oO, Act.put, sA, sB, sC]
 refine tj 8 dcl1o_8 (.pointer (some ⟨s, 0, none⟩)) hH0 (fun w0 hSw => ?_) ?_
 ·(unfold dcl1o_8 oO; clear hSw; go_simp)
 simp only [dcl1o_8, oO, Act.put, sA, sB, sC]
 refine tj 1 dcl1o_1 (.pointer (some ⟨s, 0, none⟩)) hH0 (fun w0 hSw => ?_) ?_
 ·(unfold dcl1o_1 oO; clear hSw; go_simp)
 simp only [dcl1o_1, oO, Act.put, sA, sB, sC]
 refine tj 5 dcl1o_5 (.pointer (some ⟨s, 0, none⟩)) hH0 (fun w0 hSw => ?_) ?_
 ·(unfold dcl1o_5 oO; clear hSw; go_simp)
 simp only [dcl1o_5, oO, Act.put, sA, sB, sC]
 refine tj 9 dcl1o_9 (.pointer (some ⟨s, 0, none⟩)) hH0 (fun w0 hSw => ?_) ?_
 ·(unfold dcl1o_9 oO; clear hSw; go_simp)
 simp only [dcl1o_9, oO, Act.put, sA, sB, sC]
 refine tj 2 dcl1o_2 (.pointer (some ⟨s, 0, none⟩)) hH0 (fun w0 hSw => ?_) ?_
 ·(unfold dcl1o_2 oO; clear hSw; go_simp)
 simp only [dcl1o_2, oO, Act.put, sA, sB, sC]
 refine tj 6 dcl1o_6 (.pointer (some ⟨s, 1, none⟩)) hH0 (fun w0 hSw => ?_) ?_
 ·(unfold dcl1o_6 oO; clear hSw; go_simp)
 simp only [dcl1o_6, oO, Act.put, sA, sB, sC]
 refine tj 10 dcl1o_10 (.pointer (some ⟨s, 2, none⟩)) hH0 (fun w0 hSw => ?_) ?_
 ·(unfold dcl1o_10 oO; clear hSw; go_simp)
 simp only [dcl1o_10, oO, Act.put, sA, sB, sC]
 refine tj 3 dcl1o_3 (.int .i64 (m : Int)) hH0 (fun w0 hSw => ?_) ?_
 ·(unfold dcl1o_3 oO; have hS : Below W.heap.size W w0 := hSw; have a0 := cell_keep c0 hS; clear hS hSw; go_simp)
 simp only [dcl1o_3, oO, Act.put, sA, sB, sC]
 refine tj 7 dcl1o_7 (.int .i64 (Kg : Int)) hH0 (fun w0 hSw => ?_) ?_
 ·(unfold dcl1o_7 oO; have hS : Below W.heap.size W w0 := hSw; have a0 := cell_keep c1x hS; clear hS hSw; go_simp)
 simp only [dcl1o_7, oO, Act.put, sA, sB, sC]
 refine ar [11] ?_
 refine ac dcl1o_11 (fun K hK => ?_) AllReadyH.nil
 unfold dcl1o_11 oO
 have HH := Hn hH0
 clear hH0
 refine wp_loadCD _ rfl s 2 nq cQ PQ rfl (cell_keep c2 HH.out) ?_
 simp only [Act.put, sA, sB, sC]
 have SN := HH
 clear HH
 refine hK.out _ _ SN.out (fun hH1 => ?_)
 clear hK K SN
 refine ar [12] ?_
 refine ac dcl1o_12 (fun K hK => ?_) AllReadyH.nil
 unfold dcl1o_12 oO
 have HH := Hn hH1
 clear hH1
 refine wp_clD _ _ rfl HROW.out HONE.out HQ2.out HH.out rfl rfl (fun P1 c1 wn2 hO hB => ?_)
 have SN := Hn (bl_trans HH.out hB)
 have RO := Hn (hO)
 clear HH hO hB
 simp only [Act.put, sA, sB, sC]
 refine hK.out _ _ SN.out (fun hH2 => ?_)
 clear hK K SN
 refine tj 13 dcl1o_13 (.agg #[.int .i64 (m : Int), .int .i64 (Kg : Int), .slice P1 nq c1]) hH2 (fun w0 hSw => ?_) ?_
 ·(unfold dcl1o_13 oO; clear hSw; go_simp)
 simp only [dcl1o_13, oO, Act.put, sA, sB, sC]
 refine ar [14] ?_
 refine ac dcl1o_14 (fun K hK => ?_) AllReadyH.nil
 unfold dcl1o_14 oO
 have HH := Hn hH2
 clear hH2
 refine wp_boxD _ rfl (m : Int) (Kg : Int) P1 nq c1 rfl (fun sb wn3 hsb hwq => ?_)
 have SN := Hn ((by rw [hwq]; exact bl_trans HH.out (bl_alloc _ _) : Below W.heap.size W wn3))
 have FB := Hn ((by rw [hwq, hsb]; exact ⟨heap_alloc_new _ _, own_keepT RO.out (bl_alloc _ _), HH.out.size⟩ : wn3.heap[sb]? = some (.cells #[.int .i64 (m : Int), .int .i64 (Kg : Int), .slice P1 nq c1] 97 (0, 0)) ∧ wn3.ownsRow W.heap.size 72 1 (.slice P1 nq c1) nq vs ∧ W.heap.size ≤ sb))
 clear HH hsb hwq RO
 simp only [Act.put, sA, sB, sC]
 refine hK.out _ _ SN.out (fun hH3 => ?_)
 clear hK K SN
 refine tj 15 dcl1o_15 (.pointer (some ⟨sb, 0, none⟩)) hH3 (fun w0 hSw => ?_) ?_
 ·(unfold dcl1o_15 oO; clear hSw; go_simp)
 simp only [dcl1o_15, oO, Act.put, sA, sB, sC]
 have HH := Hn hH3
 have FQ := Hn (HQ.out _ P1 c1 sb HH.out FB.out)
 refine wpAnyH_done (by kernel_rfl) ?_ _
 refine NoPanic.normal ?_
 exact FQ.out
theorem dClone_new {base : Nat} {w : World} {s m Kg : Nat} {v : Value} {vs : List Value} {Q : List (List Tm)} (h : Dy base w s m Kg v vs Q) (hq : Q.length ≤ 4096) : Calls Tryz.prog 35 #[.pointer (some ⟨s, 0, none⟩)] w fun e w' => ∃ r, e = .returned (.pointer (some ⟨r, 0, none⟩)) ∧ w.heap.size ≤ r ∧ (∃ v', Dy w.heap.size w' r m Kg v' vs Q) ∧ Below w.heap.size w w' := by
 obtain ⟨PQ, cQ, hv, _, _⟩ := h.shape
 subst hv
 have c0 := h.c0
 have c1 := h.c1
 have c2 := h.c2
 have HO := Hn h.ones
 have HR : Hid (∃ b0, w.ownsRow b0 72 1 (.slice PQ Q.length cQ) Q.length vs) := Hn ⟨base, h.row⟩
 have HH := Hn h
 have HQ := Hn hq
 clear h hq
 generalize hnq : Q.length = nq at *
 have HNQ := Hn hnq
 clear hnq
 go_enter Tryz.func35, Tryz.ntmps35
 go_upto_region 1 with fail
 refine dcl1 _ s m Kg nq cQ PQ vs _ _ _ _ _ _ _ _ _ _ _ _ _ _ _ _ _ w c0 c1 c2 HR HO HQ (Hn ?_)
 intro wz P1 c1' sb hb hf
 obtain ⟨hf1, hf2, hf3⟩ := hf
 have B1 := Hn hb
 have F1 := Hn hf1
 have F2 := Hn hf2
 clear hb hf1 hf2 c0 c1 c2
 go_wp2_with fail
 refine bodyPost_ret (v := .pointer (some ⟨sb, 0, none⟩)) (by simp [results, Tryz.results35, go_sem]) rfl ⟨sb, rfl, hf3, ⟨.slice P1 nq c1', ?_⟩, B1.out⟩
 have hk := HH.out.keep B1.out
 exact ⟨F1.out, by rw [HNQ.out]; exact F2.out, hk.ls, hf3, hk.sm⟩
end Ci
end Go.Proofs.YtghcfcglakbkeaaGreatDoor
