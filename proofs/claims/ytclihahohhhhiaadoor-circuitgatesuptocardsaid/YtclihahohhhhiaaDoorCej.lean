import Derived.Test.YtclihahohhhhiaaDoorCei
namespace Go.Proofs.YtclihahohhhhiaaDoor
open Go.RowKit
set_option linter.unusedVariables false
set_option linter.unusedSimpArgs false
open Cm (Wr Tm co bf Ls lf ins Eqm)
namespace Ci
set_option maxRecDepth 100000
set_option maxHeartbeats 4000000
theorem ls_co {X : List Tm} (h : Ls Sm.L X) {x : Tm} (hx : x ∈ X) : co X x.1 = x.2 := by
 induction X with
 | nil => cases hx
 | cons y X ih =>
  rcases List.mem_cons.1 hx with rfl | hx
  ·exact h.head
  ·rw [Cm.co_cons, if_neg (Cm.bf_ne ((List.pairwise_cons.1 h.up).1 x hx)), ih h.tail hx]
   omega
theorem lf_wire {Y : List Tm} {x : Tm} (hx : x ∈ lf Sm.L Y) : co Y x.1 % Sm.L ≠ 0 := by
 have hl := Cm.lf_ls L0 Y
 have h1 := ls_co hl hx
 have h2 := hl.nz x hx
 rw [← Cm.lf_eqm Y x.1, h1, Int.emod_eq_of_lt (by omega) h2.2]
 omega
theorem wire_lf {Y : List Tm} {q : Wr} (h : co Y q % Sm.L ≠ 0) : ∃ y ∈ lf Sm.L Y, y.1 = q := by
 by_cases h1 : ∃ y ∈ lf Sm.L Y, y.1 = q
 ·exact h1
 ·exfalso
  apply h
  rw [← Cm.lf_eqm Y q, Cm.co_out (fun x hx e => h1 ⟨x, hx, e⟩)]
  rfl
theorem ct_mono (m K k : Nat) : ct m K k ≤ ct m (K + 1) k := by
 unfold ct
 split <;> omega
theorem hs_mono {m K : Nat} {q : Wr} (h : hs m K q = true) : hs m (K + 1) q = true := by
 unfold hs at h ⊢
 simp only [Bool.and_eq_true, decide_eq_true_eq] at h ⊢
 have := ct_mono m K q.1.toNat
 exact ⟨h.1, h.2.1, h.2.2.1, by omega⟩
theorem nm_mem {m K : Nat} {X : List Tm} (h : nm m K X.length (ft X) = true) : ∀ x ∈ X, hs m K x.1 = true := fun x hx => by
 obtain ⟨i, hi, e⟩ := List.mem_iff_getElem.1 hx
 have := nm_at h i hi
 rw [ft_get hi, e] at this
 exact this
theorem co_neg (n : Nat) (f : Nat → Trm) (q : Wr) : co (glN n f) q = -co (glL n f) q := by
 induction n with
 | zero => rfl
 | succ n ih =>
  rw [glN_succ, glL_succ, Cm.co_app, Cm.co_app, ih]
  simp only [Cm.co_cons, Cm.co_nil]
  split <;> omega
theorem mul_wires {m K n : Nat} {q : Wr} {f : Nat → Trm} (hq : hs m (K + 1) q = true) (h : nm m K (lf Sm.L (glL n f)).length (ft (lf Sm.L (glL n f))) = true) : ∀ x ∈ lf Sm.L (glL 1 (cst q) ++ glN n f), hs m (K + 1) x.1 = true := fun x hx => by
 by_cases e : x.1 = q
 ·rw [e]; exact hq
 ·have h1 := lf_wire hx
  rw [Cm.co_app, co_neg, Cm.co_out (X := glL 1 (cst q)) (fun y hy => by
   have : y = (q, (lst 1).n) := by simpa [glL, cst, List.range_succ] using hy
   rw [this]
   exact fun e2 => e e2.symm)] at h1
  obtain ⟨y, hy, e2⟩ := wire_lf (Y := glL n f) (q := x.1) (fun h2 => h1 (by rw [Int.zero_add]; exact Int.emod_eq_zero_of_dvd (Int.dvd_neg.2 (Int.dvd_of_emod_eq_zero h2))))
  rw [← e2]
  exact hs_mono (nm_mem h y hy)
theorem glL_l (n : Nat) (f : Nat → Trm) : (glL n f).length = n := by simp [glL]
theorem glN_l (n : Nat) (f : Nat → Trm) : (glN n f).length = n := by simp [glN]
theorem Wk.gate {m K : Nat} {Q : List (List Tm)} (h : Wk m K Q) (hK : K < 1024) : Wk m (K + 1) Q := ⟨fun X hX x hx => hs_mono (h.wr X hX x hx), h.ln, h.q, hK, h.pf, Nat.le_succ_of_le h.mle⟩
theorem Wk.req {m K : Nat} {Q : List (List Tm)} {X : List Tm} (h : Wk m K Q) (hX : nm m K X.length (ft X) = true) (hl : X.length ≤ 2932031007402) (hq : Q.length < 4096) : Wk m K (Q ++ [X]) :=
 ⟨fun Y hY x hx => by
  rcases List.mem_append.1 hY with h1 | h1
  ·exact h.wr Y h1 x hx
  ·rw [List.mem_singleton.1 h1] at hx
   exact nm_mem hX x hx, fun Y hY => by
  rcases List.mem_append.1 hY with h1 | h1
  ·exact h.ln Y h1
  ·rw [List.mem_singleton.1 h1]; exact hl, by rw [List.length_append]; simp; omega, h.k, (by obtain ⟨R, e⟩ := h.pf; exact ⟨R ++ [X], by rw [e, List.append_assoc]⟩), h.mle⟩
theorem hs_two (m K : Nat) : hs m (K + 1) (2, (K : Int)) = true := by
 unfold hs
 simp only [Bool.and_eq_true, decide_eq_true_eq]
 refine ⟨by omega, by omega, by omega, ?_⟩
 show (K : Int) < ((K + 1 : Nat) : Int)
 omega
theorem hs_three (m K : Nat) : hs m (K + 1) (3, (K : Int)) = true := by
 unfold hs
 simp only [Bool.and_eq_true, decide_eq_true_eq]
 refine ⟨by omega, by omega, by omega, ?_⟩
 show (K : Int) < ((K + 1 : Nat) : Int)
 omega
theorem Wk.mul {m K na nb : Nat} {fa fb : Nat → Trm} {Q : List (List Tm)} (h : Wk m K Q) (hK : K < 1024) (hq : Q.length ≤ 4094) (la : na ≤ 2932031007401) (lb : nb ≤ 2932031007401)
  (ha : nm m K (lf Sm.L (glL na fa)).length (ft (lf Sm.L (glL na fa))) = true) (hb : nm m K (lf Sm.L (glL nb fb)).length (ft (lf Sm.L (glL nb fb))) = true) :
  Wk m (K + 1) (Q ++ [lf Sm.L (glL 1 (cst (2, (K : Int))) ++ glN na fa), lf Sm.L (glL 1 (cst (3, (K : Int))) ++ glN nb fb)]) := by
 have l1 := lf_lenC (glL 1 (cst (2, (K : Int))) ++ glN na fa)
 have l2 := lf_lenC (glL 1 (cst (3, (K : Int))) ++ glN nb fb)
 rw [List.length_append, glL_l, glN_l] at l1 l2
 refine ⟨fun Y hY => ?_, fun Y hY => ?_, by rw [List.length_append]; simp; omega, hK, (by obtain ⟨R, e⟩ := h.pf; exact ⟨_, by rw [e, List.append_assoc]⟩), Nat.le_succ_of_le h.mle⟩
 ·rcases List.mem_append.1 hY with h1 | h1
  ·exact fun x hx => hs_mono (h.wr Y h1 x hx)
  ·simp only [List.mem_cons, List.not_mem_nil, or_false] at h1
   rcases h1 with rfl | rfl
   ·exact mul_wires (hs_two m K) ha
   ·exact mul_wires (hs_three m K) hb
 ·rcases List.mem_append.1 hY with h1 | h1
  ·exact h.ln Y h1
  ·simp only [List.mem_cons, List.not_mem_nil, or_false] at h1
   rcases h1 with rfl | rfl <;> omega
def Ts (w : World) (t m K : Nat) (Q : List (List Tm)) (x : World) : Prop := ∃ base v vs, Sy base x t m K v vs Q ∧ w.heap.size ≤ base ∧ Below w.heap.size w x ∧ Wk m K Q
theorem Ts.bl {w : World} {t m K : Nat} {Q : List (List Tm)} {x : World} (h : Ts w t m K Q x) : Below w.heap.size w x := by
 obtain ⟨base, v, vs, sy, hb, bl, wk⟩ := h
 exact bl
theorem Ts.wk {w : World} {t m K : Nat} {Q : List (List Tm)} {x : World} (h : Ts w t m K Q x) : Wk m K Q := by
 obtain ⟨base, v, vs, sy, hb, bl, wk⟩ := h
 exact wk
theorem Ts.keep {w : World} {t m K : Nat} {Q : List (List Tm)} {x y : World} (h : Ts w t m K Q x) (k : Below x.heap.size x y) : Ts w t m K Q y := by
 obtain ⟨base, v, vs, sy, hb, bl, wk⟩ := h
 exact ⟨base, v, vs, sy.keep k, hb, bl.trans (k.mono bl.size), wk⟩
theorem ts_fz {w x y : World} {base t m K : Nat} {v : Value} {vs : List Value} {Q : List (List Tm)} (sy : Sy base x t m K v vs Q) (hb : w.heap.size ≤ base) (bl : Below w.heap.size w x) (hf : Fz t v x y) : Below w.heap.size w y :=
 bl.trans (hf.below bl.size (Nat.le_trans hb sy.bs) (fun k hk => Nat.le_trans hb (sy.vb k hk).1))
structure Lf where
 p : Option Addr
 n : Nat
 c : Nat
 f : Nat → Trm
def Lf.v (s : Lf) : Value := .slice s.p s.n s.c
structure Lf.at (s : Lf) (w : World) : Prop where
 lt : Lt w s.p s.n s.f
 ok : ∀ k, k < s.n → (s.f k).a.ok
 n : s.n ≤ 1048576
theorem Lf.at.keep {s : Lf} {w w' : World} (h : s.at w) (hb : Below w.heap.size w w') : s.at w' := ⟨h.lt.keep hb, h.ok, h.n⟩
theorem tsGate {w : World} {t m K : Nat} {Q : List (List Tm)} {x : World} (h : Ts w t m K Q x) : Calls Tryd.prog 27 #[.pointer (some ⟨t, 0, none⟩)] x fun e w' => ∃ v, e = .returned v ∧ ∃ K' Q', Ts w t m K' Q' w' := by
 have h0 := h
 obtain ⟨base, v, vs, sy, hb, bl, wk⟩ := h
 by_cases hK : K < 1024
 ·refine (Gate_ok sy hK).mono fun e w' ⟨he, h1, h2⟩ => ⟨_, he, K + 1, Q, base, v, vs, h1, hb, bl.grown h2 bl.size (fun k hk => by obtain rfl := Option.some.inj hk; exact Nat.le_trans hb h1.bs), wk.gate hK⟩
 ·exact (Gate_full sy (by omega)).mono fun e w' ⟨he, hw⟩ => ⟨_, he, K, Q, h0.keep hw⟩
theorem tsRequire {w : World} {t m K : Nat} {Q : List (List Tm)} {x : World} (hT : Tb w) (h : Ts w t m K Q x) (a : Lf) (ha : a.at x) : Calls Tryd.prog 21 #[.pointer (some ⟨t, 0, none⟩), .slice a.p a.n a.c] x fun e w' => ∃ v, e = .returned v ∧ ∃ K' Q', Ts w t m K' Q' w' := by
 have h0 := h
 obtain ⟨base, v, vs, sy, hb, bl, wk⟩ := h
 have hn := ha.n
 have hl := lf_lenC (glL a.n a.f)
 rw [glL_l] at hl
 cases hw : nm m K (lf Sm.L (glL a.n a.f)).length (ft (lf Sm.L (glL a.n a.f))) with
 | false => exact (Require_wire sy (hT.keep bl) a.p a.n a.c a.f (by omega) ha.ok ha.lt hw).mono fun e w' ⟨he, hb'⟩ => ⟨_, he, K, Q, h0.keep hb'⟩
 | true =>
  by_cases hq : Q.length < 4096
  ·exact (Require_ok sy (hT.keep bl) a.p a.n a.c a.f (by omega) ha.ok ha.lt hw hq).mono fun e w' ⟨he, v', u, h1, h2, _⟩ => ⟨_, he, K, _, base, v', _, h1, hb, ts_fz sy hb bl h2, wk.req hw (by omega) hq⟩
  ·exact (Require_full sy (hT.keep bl) a.p a.n a.c a.f (by omega) ha.ok ha.lt hw (by omega)).mono fun e w' ⟨he, hb'⟩ => ⟨_, he, K, Q, h0.keep hb'⟩
theorem tsMultiply {w : World} {t m K : Nat} {Q : List (List Tm)} {x : World} (hT : Tb w) (h : Ts w t m K Q x) (a b : Lf) (ha : a.at x) (hb2 : b.at x) : Calls Tryd.prog 7 #[.pointer (some ⟨t, 0, none⟩), .slice a.p a.n a.c, .slice b.p b.n b.c] x fun e w' => ∃ v, e = .returned v ∧ ∃ K' Q', Ts w t m K' Q' w' := by
 have h0 := h
 obtain ⟨base, v, vs, sy, hb, bl, wk⟩ := h
 have hn := ha.n
 have hn2 := hb2.n
 cases hw : nm m K (lf Sm.L (glL a.n a.f)).length (ft (lf Sm.L (glL a.n a.f))) with
 | false => exact (Multiply_wireA sy (hT.keep bl) a.p b.p a.n a.c b.n b.c a.f b.f (by omega) (by omega) ha.ok hb2.ok ha.lt hb2.lt hw).mono fun e w' ⟨he, hb'⟩ => ⟨_, he, K, Q, h0.keep hb'⟩
 | true =>
  cases hv : nm m K (lf Sm.L (glL b.n b.f)).length (ft (lf Sm.L (glL b.n b.f))) with
  | false => exact (Multiply_wireB sy (hT.keep bl) a.p b.p a.n a.c b.n b.c a.f b.f (by omega) (by omega) ha.ok hb2.ok ha.lt hb2.lt hw hv).mono fun e w' ⟨he, hb'⟩ => ⟨_, he, K, Q, h0.keep hb'⟩
  | true =>
   by_cases hq : 4094 < Q.length
   ·exact (Multiply_full2 sy (hT.keep bl) a.p b.p a.n a.c b.n b.c a.f b.f (by omega) (by omega) ha.ok hb2.ok ha.lt hb2.lt hw hv hq).mono fun e w' ⟨he, hb'⟩ => ⟨_, he, K, Q, h0.keep hb'⟩
   ·by_cases hK : K < 1024
    ·exact (Multiply_ok sy (hT.keep bl) a.p b.p a.n a.c b.n b.c a.f b.f (by omega) (by omega) ha.ok hb2.ok ha.lt hb2.lt hw hv (by omega) hK).mono fun e w' ⟨he, v', vs', h1, h2⟩ => ⟨_, he, K + 1, _, base, v', vs', h1, hb, ts_fz sy hb bl h2, wk.mul hK (by omega) (by omega) (by omega) hw hv⟩
    ·exact (Multiply_full1 sy (hT.keep bl) a.p b.p a.n a.c b.n b.c a.f b.f (by omega) (by omega) ha.ok hb2.ok ha.lt hb2.lt hw hv (by omega) (by omega)).mono fun e w' ⟨he, hb'⟩ => ⟨_, he, K, Q, h0.keep hb'⟩
theorem tsClone {w : World} {t m K : Nat} {Q : List (List Tm)} {x : World} (h : Ts w t m K Q x) : Calls Tryd.prog 28 #[.pointer (some ⟨t, 0, none⟩)] x fun e w' => ∃ t', e = .returned (.pointer (some ⟨t', 0, none⟩)) ∧ Ts w t' m K Q w' := by
 obtain ⟨base, v, vs, sy, hb, bl, wk⟩ := h
 exact (SysClone_any sy wk.q).mono fun e w' ⟨he, ⟨v', vs', h1⟩, hb'⟩ => ⟨_, he, base, v', vs', h1, hb, bl.trans (hb'.mono bl.size), wk⟩
theorem tsNew {w x : World} {m : Nat} {y : World} (hm : m ≤ 16) (bl : Below w.heap.size w x) (h : Nu x x.heap.size m m y) : Ts w x.heap.size m m (enl m) y := by
 obtain ⟨Pv, cv, vs, sy, hb⟩ := h
 refine ⟨x.heap.size, _, vs, sy, bl.size, bl.trans (hb.mono bl.size), ?_⟩
 have key : ∀ k, k ≤ m → ∀ X ∈ enl k, ∃ j, j < m ∧ X = enX (j : Int) := by
  intro k
  induction k with
  | zero => intro _ X hX; cases hX
  | succ k ih =>
   intro hk X hX
   rcases List.mem_append.1 hX with h1 | h1
   ·exact ih (by omega) X h1
   ·exact ⟨k, by omega, List.mem_singleton.1 h1⟩
 refine ⟨fun X hX x hx => ?_, fun X hX => ?_, by rw [enl_len]; omega, by omega, ⟨[], by rw [List.append_nil]⟩, Nat.le_refl _⟩
 ·obtain ⟨j, hj, rfl⟩ := key m (Nat.le_refl m) X hX
  obtain ⟨y, hy, e⟩ := lf_mem hx
  rw [e]
  have hy2 : y.1 = (2, (j : Int)) ∨ y.1 = (5, (j : Int)) := by
   rcases List.mem_append.1 hy with h1 | h1
   ·left; have : y = ((2, (j : Int)), (lst 1).n) := by simpa [glL, cst, List.range_succ] using h1
    rw [this]
   ·right; have : y = ((5, (j : Int)), -(lst 1).n) := by simpa [glN, cst, List.range_succ] using h1
    rw [this]
  rcases hy2 with h1 | h1
  ·rw [h1]
   unfold hs
   simp only [Bool.and_eq_true, decide_eq_true_eq]
   exact ⟨by omega, by omega, by omega, (by omega : (j : Int) < (m : Int))⟩
  ·rw [h1]
   unfold hs
   simp only [Bool.and_eq_true, decide_eq_true_eq]
   exact ⟨by omega, by omega, by omega, (by omega : (j : Int) < (m : Int))⟩
 ·obtain ⟨j, hj, rfl⟩ := key m (Nat.le_refl m) X hX
  have := lf_lenC (glL 1 (cst (2, (j : Int))) ++ glN 1 (cst (5, (j : Int))))
  rw [List.length_append, glL_l, glN_l] at this
  unfold enX
  omega
end Ci
end Go.Proofs.YtclihahohhhhiaaDoor
