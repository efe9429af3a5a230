import Derived.Test.YthngomhhafoamaaGreatDoorHz
set_option linter.unusedVariables false
set_option linter.unusedSimpArgs false
set_option maxRecDepth 100000
set_option maxHeartbeats 16000000
namespace Go.Proofs.YthngomhhafoamaaGreatDoor
open Go.RowKit
open Cm (Wr Tm co bf Ls lf ins Eqm)
namespace Ci
theorem ls_co {X : List Tm} (h : Ls Sm.L X) {x : Tm} (hx : x ∈ X) : co X x.1 = x.2 := by
 induction X with
 | nil => cases hx
 | cons y X ih =>
  rcases List.mem_cons.1 hx with rfl | hx
  ·exact h.head
  ·rw [Cm.co_cons, if_neg (Cm.bf_ne ((List.pairwise_cons.1 h.up).1 x hx)), ih h.tail hx]
   omega
theorem lf_wire {Y : List Tm} {x : Tm} (hx : x ∈ lf Sm.L Y) : co Y x.1 % Sm.L ≠ 0 := by
 have hl := Cm.lf_ls L0 Y
 have h1 := ls_co hl hx
 have h2 := hl.nz x hx
 rw [← Cm.lf_eqm Y x.1, h1, Int.emod_eq_of_lt (by omega) h2.2]
 omega
theorem wire_lf {Y : List Tm} {q : Wr} (h : co Y q % Sm.L ≠ 0) : ∃ y ∈ lf Sm.L Y, y.1 = q := by
 by_cases h1 : ∃ y ∈ lf Sm.L Y, y.1 = q
 ·exact h1
 ·exfalso
  apply h
  rw [← Cm.lf_eqm Y q, Cm.co_out (fun x hx e => h1 ⟨x, hx, e⟩)]
  rfl
theorem ct_mono (m K k : Nat) : ct m K k ≤ ct m (K + 1) k := by
 unfold ct
 split <;> omega
theorem hs_mono {m K : Nat} {q : Wr} (h : hs m K q = true) : hs m (K + 1) q = true := by
 unfold hs at h ⊢
 simp only [Bool.and_eq_true, decide_eq_true_eq] at h ⊢
 have := ct_mono m K q.1.toNat
 exact ⟨h.1, h.2.1, h.2.2.1, by omega⟩
theorem nm_mem {m K : Nat} {X : List Tm} (h : nm m K X.length (ft X) = true) : ∀ x ∈ X, hs m K x.1 = true := fun x hx => by
 obtain ⟨i, hi, e⟩ := List.mem_iff_getElem.1 hx
 have := nm_at h i hi
 rw [ft_get hi, e] at this
 exact this
theorem co_neg (n : Nat) (f : Nat → Trm) (q : Wr) : co (glN n f) q = -co (glL n f) q := by
 induction n with
 | zero => rfl
 | succ n ih =>
  rw [glN_succ, glL_succ, Cm.co_app, Cm.co_app, ih]
  simp only [Cm.co_cons, Cm.co_nil]
  split <;> omega
theorem mul_wires {m K n : Nat} {q : Wr} {f : Nat → Trm} (hq : hs m (K + 1) q = true) (h : nm m K (lf Sm.L (glL n f)).length (ft (lf Sm.L (glL n f))) = true) : ∀ x ∈ lf Sm.L (glL 1 (cst q) ++ glN n f), hs m (K + 1) x.1 = true := fun x hx => by
 by_cases e : x.1 = q
 ·rw [e]; exact hq
 ·have h1 := lf_wire hx
  rw [Cm.co_app, co_neg, Cm.co_out (X := glL 1 (cst q)) (fun y hy => by
   have : y = (q, (lst 1).n) := by simpa [glL, cst, List.range_succ] using hy
   rw [this]
   exact fun e2 => e e2.symm)] at h1
  obtain ⟨y, hy, e2⟩ := wire_lf (Y := glL n f) (q := x.1) (fun h2 => h1 (by rw [Int.zero_add]; exact Int.emod_eq_zero_of_dvd (Int.dvd_neg.2 (Int.dvd_of_emod_eq_zero h2))))
  rw [← e2]
  exact hs_mono (nm_mem h y hy)
theorem glL_l (n : Nat) (f : Nat → Trm) : (glL n f).length = n := by simp [glL]
theorem glN_l (n : Nat) (f : Nat → Trm) : (glN n f).length = n := by simp [glN]
theorem Wk.gate {m K : Nat} {Q : List (List Tm)} (h : Wk m K Q) (hK : K < 1024) : Wk m (K + 1) Q := ⟨fun X hX x hx => hs_mono (h.wr X hX x hx), h.ln, h.q, hK, h.pf, Nat.le_succ_of_le h.mle⟩
theorem Wk.req {m K : Nat} {Q : List (List Tm)} {X : List Tm} (h : Wk m K Q) (hX : nm m K X.length (ft X) = true) (hl : X.length ≤ 2932031007402) (hq : Q.length < 4096) : Wk m K (Q ++ [X]) :=
 ⟨fun Y hY x hx => by
  rcases List.mem_append.1 hY with h1 | h1
  ·exact h.wr Y h1 x hx
  ·rw [List.mem_singleton.1 h1] at hx
   exact nm_mem hX x hx, fun Y hY => by
  rcases List.mem_append.1 hY with h1 | h1
  ·exact h.ln Y h1
  ·rw [List.mem_singleton.1 h1]; exact hl, by rw [List.length_append]; simp; omega, h.k, (by obtain ⟨R, e⟩ := h.pf; exact ⟨R ++ [X], by rw [e, List.append_assoc]⟩), h.mle⟩
theorem hs_two (m K : Nat) : hs m (K + 1) (2, (K : Int)) = true := by
 unfold hs
 simp only [Bool.and_eq_true, decide_eq_true_eq]
 refine ⟨by omega, by omega, by omega, ?_⟩
 show (K : Int) < ((K + 1 : Nat) : Int)
 omega
theorem hs_three (m K : Nat) : hs m (K + 1) (3, (K : Int)) = true := by
 unfold hs
 simp only [Bool.and_eq_true, decide_eq_true_eq]
 refine ⟨by omega, by omega, by omega, ?_⟩
 show (K : Int) < ((K + 1 : Nat) : Int)
 omega
theorem Wk.mul {m K na nb : Nat} {fa fb : Nat → Trm} {Q : List (List Tm)} (h : Wk m K Q) (hK : K < 1024) (hq : Q.length ≤ 4094) (la : na ≤ 2932031007401) (lb : nb ≤ 2932031007401)
  (ha : nm m K (lf Sm.L (glL na fa)).length (ft (lf Sm.L (glL na fa))) = true) (hb : nm m K (lf Sm.L (glL nb fb)).length (ft (lf Sm.L (glL nb fb))) = true) :
  Wk m (K + 1) (Q ++ [lf Sm.L (glL 1 (cst (2, (K : Int))) ++ glN na fa), lf Sm.L (glL 1 (cst (3, (K : Int))) ++ glN nb fb)]) := by
 have l1 := lf_lenC (glL 1 (cst (2, (K : Int))) ++ glN na fa)
 have l2 := lf_lenC (glL 1 (cst (3, (K : Int))) ++ glN nb fb)
 rw [List.length_append, glL_l, glN_l] at l1 l2
 refine ⟨fun Y hY => ?_, fun Y hY => ?_, by rw [List.length_append]; simp; omega, hK, (by obtain ⟨R, e⟩ := h.pf; exact ⟨_, by rw [e, List.append_assoc]⟩), Nat.le_succ_of_le h.mle⟩
 ·rcases List.mem_append.1 hY with h1 | h1
  ·exact fun x hx => hs_mono (h.wr Y h1 x hx)
  ·simp only [List.mem_cons, List.not_mem_nil, or_false] at h1
   rcases h1 with rfl | rfl
   ·exact mul_wires (hs_two m K) ha
   ·exact mul_wires (hs_three m K) hb
 ·rcases List.mem_append.1 hY with h1 | h1
  ·exact h.ln Y h1
  ·simp only [List.mem_cons, List.not_mem_nil, or_false] at h1
   rcases h1 with rfl | rfl <;> omega
def Ts (w : World) (t m K : Nat) (Q : List (List Tm)) (x : World) : Prop := ∃ base v vs, Sy base x t m K v vs Q ∧ w.heap.size ≤ base ∧ Below w.heap.size w x ∧ Wk m K Q
theorem Ts.bl {w : World} {t m K : Nat} {Q : List (List Tm)} {x : World} (h : Ts w t m K Q x) : Below w.heap.size w x := by
 obtain ⟨base, v, vs, sy, hb, bl, wk⟩ := h
 exact bl
theorem Ts.wk {w : World} {t m K : Nat} {Q : List (List Tm)} {x : World} (h : Ts w t m K Q x) : Wk m K Q := by
 obtain ⟨base, v, vs, sy, hb, bl, wk⟩ := h
 exact wk
theorem Ts.keep {w : World} {t m K : Nat} {Q : List (List Tm)} {x y : World} (h : Ts w t m K Q x) (k : Below x.heap.size x y) : Ts w t m K Q y := by
 obtain ⟨base, v, vs, sy, hb, bl, wk⟩ := h
 exact ⟨base, v, vs, sy.keep k, hb, bl.trans (k.mono bl.size), wk⟩
theorem ts_fz {w x y : World} {base t m K : Nat} {v : Value} {vs : List Value} {Q : List (List Tm)} (sy : Sy base x t m K v vs Q) (hb : w.heap.size ≤ base) (bl : Below w.heap.size w x) (hf : Fz t v x y) : Below w.heap.size w y :=
 bl.trans (hf.below bl.size (Nat.le_trans hb sy.bs) (fun k hk => Nat.le_trans hb (sy.vb k hk).1))
structure Lf where
 p : Option Addr
 n : Nat
 c : Nat
 f : Nat → Trm
def Lf.v (s : Lf) : Value := .slice s.p s.n s.c
structure Lf.at (s : Lf) (w : World) : Prop where
 lt : Lt w s.p s.n s.f
 ok : ∀ k, k < s.n → (s.f k).a.ok
 n : s.n ≤ 1048576
theorem Lf.at.keep {s : Lf} {w w' : World} (h : s.at w) (hb : Below w.heap.size w w') : s.at w' := ⟨h.lt.keep hb, h.ok, h.n⟩
theorem tsGate {w : World} {t m K : Nat} {Q : List (List Tm)} {x : World} (h : Ts w t m K Q x) : Calls Tryz.prog 12 #[.pointer (some ⟨t, 0, none⟩)] x fun e w' => ∃ v, e = .returned v ∧ ∃ K' Q', Ts w t m K' Q' w' := by
 have h0 := h
 obtain ⟨base, v, vs, sy, hb, bl, wk⟩ := h
 by_cases hK : K < 1024
 ·refine (Gate_ok sy hK).mono fun e w' ⟨he, h1, h2⟩ => ⟨_, he, K + 1, Q, base, v, vs, h1, hb, bl.grown h2 bl.size (fun k hk => by obtain rfl := Option.some.inj hk; exact Nat.le_trans hb h1.bs), wk.gate hK⟩
 ·exact (Gate_full sy (by omega)).mono fun e w' ⟨he, hw⟩ => ⟨_, he, K, Q, h0.keep hw⟩
theorem tsRequire {w : World} {t m K : Nat} {Q : List (List Tm)} {x : World} (hT : Tb w) (h : Ts w t m K Q x) (a : Lf) (ha : a.at x) : Calls Tryz.prog 18 #[.pointer (some ⟨t, 0, none⟩), .slice a.p a.n a.c] x fun e w' => ∃ v, e = .returned v ∧ ∃ K' Q', Ts w t m K' Q' w' := by
 have h0 := h
 obtain ⟨base, v, vs, sy, hb, bl, wk⟩ := h
 have hn := ha.n
 have hl := lf_lenC (glL a.n a.f)
 rw [glL_l] at hl
 cases hw : nm m K (lf Sm.L (glL a.n a.f)).length (ft (lf Sm.L (glL a.n a.f))) with
 | false => exact (Require_wire sy (hT.keep bl) a.p a.n a.c a.f (by omega) ha.ok ha.lt hw).mono fun e w' ⟨he, hb'⟩ => ⟨_, he, K, Q, h0.keep hb'⟩
 | true =>
  by_cases hq : Q.length < 4096
  ·exact (Require_ok sy (hT.keep bl) a.p a.n a.c a.f (by omega) ha.ok ha.lt hw hq).mono fun e w' ⟨he, v', u, h1, h2, _⟩ => ⟨_, he, K, _, base, v', _, h1, hb, ts_fz sy hb bl h2, wk.req hw (by omega) hq⟩
  ·exact (Require_full sy (hT.keep bl) a.p a.n a.c a.f (by omega) ha.ok ha.lt hw (by omega)).mono fun e w' ⟨he, hb'⟩ => ⟨_, he, K, Q, h0.keep hb'⟩
theorem tsMultiply {w : World} {t m K : Nat} {Q : List (List Tm)} {x : World} (hT : Tb w) (h : Ts w t m K Q x) (a b : Lf) (ha : a.at x) (hb2 : b.at x) : Calls Tryz.prog 25 #[.pointer (some ⟨t, 0, none⟩), .slice a.p a.n a.c, .slice b.p b.n b.c] x fun e w' => ∃ v, e = .returned v ∧ ∃ K' Q', Ts w t m K' Q' w' := by
 have h0 := h
 obtain ⟨base, v, vs, sy, hb, bl, wk⟩ := h
 have hn := ha.n
 have hn2 := hb2.n
 cases hw : nm m K (lf Sm.L (glL a.n a.f)).length (ft (lf Sm.L (glL a.n a.f))) with
 | false => exact (Multiply_wireA sy (hT.keep bl) a.p b.p a.n a.c b.n b.c a.f b.f (by omega) (by omega) ha.ok hb2.ok ha.lt hb2.lt hw).mono fun e w' ⟨he, hb'⟩ => ⟨_, he, K, Q, h0.keep hb'⟩
 | true =>
  cases hv : nm m K (lf Sm.L (glL b.n b.f)).length (ft (lf Sm.L (glL b.n b.f))) with
  | false => exact (Multiply_wireB sy (hT.keep bl) a.p b.p a.n a.c b.n b.c a.f b.f (by omega) (by omega) ha.ok hb2.ok ha.lt hb2.lt hw hv).mono fun e w' ⟨he, hb'⟩ => ⟨_, he, K, Q, h0.keep hb'⟩
  | true =>
   by_cases hq : 4094 < Q.length
   ·exact (Multiply_full2 sy (hT.keep bl) a.p b.p a.n a.c b.n b.c a.f b.f (by omega) (by omega) ha.ok hb2.ok ha.lt hb2.lt hw hv hq).mono fun e w' ⟨he, hb'⟩ => ⟨_, he, K, Q, h0.keep hb'⟩
   ·by_cases hK : K < 1024
    ·exact (Multiply_ok sy (hT.keep bl) a.p b.p a.n a.c b.n b.c a.f b.f (by omega) (by omega) ha.ok hb2.ok ha.lt hb2.lt hw hv (by omega) hK).mono fun e w' ⟨he, v', vs', h1, h2⟩ => ⟨_, he, K + 1, _, base, v', vs', h1, hb, ts_fz sy hb bl h2, wk.mul hK (by omega) (by omega) (by omega) hw hv⟩
    ·exact (Multiply_full1 sy (hT.keep bl) a.p b.p a.n a.c b.n b.c a.f b.f (by omega) (by omega) ha.ok hb2.ok ha.lt hb2.lt hw hv (by omega) (by omega)).mono fun e w' ⟨he, hb'⟩ => ⟨_, he, K, Q, h0.keep hb'⟩
theorem tsClone {w : World} {t m K : Nat} {Q : List (List Tm)} {x : World} (h : Ts w t m K Q x) : Calls Tryz.prog 11 #[.pointer (some ⟨t, 0, none⟩)] x fun e w' => ∃ t', e = .returned (.pointer (some ⟨t', 0, none⟩)) ∧ Ts w t' m K Q w' := by
 obtain ⟨base, v, vs, sy, hb, bl, wk⟩ := h
 exact (SysClone_any sy wk.q).mono fun e w' ⟨he, ⟨v', vs', h1⟩, hb'⟩ => ⟨_, he, base, v', vs', h1, hb, bl.trans (hb'.mono bl.size), wk⟩
theorem tsNew {w x : World} {m : Nat} {y : World} (hm : m ≤ 16) (bl : Below w.heap.size w x) (h : Nu x x.heap.size m m y) : Ts w x.heap.size m m (enl m) y := by
 obtain ⟨Pv, cv, vs, sy, hb⟩ := h
 refine ⟨x.heap.size, _, vs, sy, bl.size, bl.trans (hb.mono bl.size), ?_⟩
 have key : ∀ k, k ≤ m → ∀ X ∈ enl k, ∃ j, j < m ∧ X = enX (j : Int) := by
  intro k
  induction k with
  | zero => intro _ X hX; cases hX
  | succ k ih =>
   intro hk X hX
   rcases List.mem_append.1 hX with h1 | h1
   ·exact ih (by omega) X h1
   ·exact ⟨k, by omega, List.mem_singleton.1 h1⟩
 refine ⟨fun X hX x hx => ?_, fun X hX => ?_, by rw [enl_len]; omega, by omega, ⟨[], by rw [List.append_nil]⟩, Nat.le_refl _⟩
 ·obtain ⟨j, hj, rfl⟩ := key m (Nat.le_refl m) X hX
  obtain ⟨y, hy, e⟩ := lf_mem hx
  rw [e]
  have hy2 : y.1 = (2, (j : Int)) ∨ y.1 = (5, (j : Int)) := by
   rcases List.mem_append.1 hy with h1 | h1
   ·left; have : y = ((2, (j : Int)), (lst 1).n) := by simpa [glL, cst, List.range_succ] using h1
    rw [this]
   ·right; have : y = ((5, (j : Int)), -(lst 1).n) := by simpa [glN, cst, List.range_succ] using h1
    rw [this]
  rcases hy2 with h1 | h1
  ·rw [h1]
   unfold hs
   simp only [Bool.and_eq_true, decide_eq_true_eq]
   exact ⟨by omega, by omega, by omega, (by omega : (j : Int) < (m : Int))⟩
  ·rw [h1]
   unfold hs
   simp only [Bool.and_eq_true, decide_eq_true_eq]
   exact ⟨by omega, by omega, by omega, (by omega : (j : Int) < (m : Int))⟩
 ·obtain ⟨j, hj, rfl⟩ := key m (Nat.le_refl m) X hX
  have := lf_lenC (glL 1 (cst (2, (j : Int))) ++ glN 1 (cst (5, (j : Int))))
  rw [List.length_append, glL_l, glN_l] at this
  unfold enX
  omega
end Ci
end Go.Proofs.YthngomhhafoamaaGreatDoor
namespace Go.Proofs.YthngomhhafoamaaGreatDoor
open Go.RowKit
open Cm (Wr Tm co bf Ls lf ins Eqm)
namespace Ci
theorem cellL {b : Nat} {w w' : World} {k o : Nat} {v : Value} (h : w.cell? ⟨k, o, none⟩ = some v) (hk : k < b) (hb : Below b w w') : w'.cell? ⟨k, o, none⟩ = some v := by
 rw [hb.cell (p := ⟨k, o, none⟩) hk]; exact h
structure Stp where
 q : Int
 a : Lf
 b : Lf
structure Scr (w : World) (sb so n : Nat) (g : Nat → Stp) : Prop where
 c0 : ∀ k, k < n → w.cell? ⟨sb, so + k * 3, none⟩ = some (.int .i64 (g k).q)
 c1 : ∀ k, k < n → w.cell? ⟨sb, so + k * 3 + 1, none⟩ = some (.slice (g k).a.p (g k).a.n (g k).a.c)
 c2 : ∀ k, k < n → w.cell? ⟨sb, so + k * 3 + 2, none⟩ = some (.slice (g k).b.p (g k).b.n (g k).b.c)
 la : ∀ k, k < n → (g k).a.at w
 lb : ∀ k, k < n → (g k).b.at w
def Scl (w : World) (P : Option Addr) (n : Nat) (g : Nat → Stp) : Prop := ∃ sb so : Nat, (0 < n → P = some ⟨sb, so, none⟩) ∧ (0 < n → Scr w sb so n g)
def pAz20 : String := "outright.go:36"
def mk11o_0 : Oper := oO 33 (Op.move (Operand.tmp 5)) 27 pAz20 #[]
def mk11o_1 : Oper := oO 34 (Op.move (Operand.tmp 1)) 22 pAz20 #[]
def mk11o_2 : Oper := oO 35 (Op.move (Operand.tmp 7)) 3 pAz20 #[]
def mk11o_3 : Oper := oO 36 (Op.indexAddr 22 (Operand.tmp 34) (Operand.tmp 35)) 0 pAz20 #[DD 1, DD 2]
def mk11o_4 : Oper := oO 37 (Op.fieldAddr 58 (Operand.tmp 36) 1) 0 pAz20 #[DD 3]
def mk11o_5 : Oper := oO 38 (Op.load 24 (Operand.tmp 37)) 24 pAz20 #[DD 4]
def mk11o_6 : Oper := oO 39 (Op.move (Operand.tmp 1)) 22 pAz20 #[]
def mk11o_7 : Oper := oO 40 (Op.move (Operand.tmp 7)) 3 pAz20 #[]
def mk11o_8 : Oper := oO 41 (Op.indexAddr 22 (Operand.tmp 39) (Operand.tmp 40)) 0 pAz20 #[DD 6, DD 7]
def mk11o_9 : Oper := oO 42 (Op.fieldAddr 58 (Operand.tmp 41) 2) 0 pAz20 #[DD 8]
def mk11o_10 : Oper := oO 43 (Op.load 24 (Operand.tmp 42)) 24 pAz20 #[DD 9]
def mk11o_11 : Oper := oO 44 (Op.call { callee := Callee.value (Operand.func 25), args := #[Operand.tmp 33, Operand.tmp 38, Operand.tmp 43], argTypes := #[27, 24, 24] }) 42 pAz20 #[DD 0, DD 5, DD 10]
def mk11o : Array Oper := #[mk11o_0, mk11o_1, mk11o_2, mk11o_3, mk11o_4, mk11o_5, mk11o_6, mk11o_7, mk11o_8, mk11o_9, mk11o_10, mk11o_11]
theorem mk11 (Q : Exit → Act → World → Prop) (sb so n c i t : Nat) (a b : Lf) (wq : World) (R : World → Prop) (u0 u2 u3 u4 u6 u8 u9 aa ab ad ae af ag ah ai aj ak al am an ao ap aq au av aw ax ay az aA aB aC aD aE aF aG aH aI aJ aK aL aM aN aO aP aQ aR aS aT aU aV aW aX aY aZ a1 : Value) (W : World)
  (i0 : (0 : Int) ≤ (i : Int)) (i1 : (i : Int) < (n : Int)) (hlt : sb < wq.heap.size) (HW : Hid (Below wq.heap.size wq W)) (c1 : wq.cell? ⟨sb, so + i * 3 + 1, none⟩ = some (.slice a.p a.n a.c)) (c2 : wq.cell? ⟨sb, so + i * 3 + 2, none⟩ = some (.slice b.p b.n b.c))
  (C1 : Hid (Calls Tryz.prog 25 #[.pointer (some ⟨t, 0, none⟩), .slice a.p a.n a.c, .slice b.p b.n b.c] W.drew fun e w' => ∃ v, e = .returned v ∧ R w')) (RB : Hid (∀ x, R x → Below wq.heap.size wq x))
  (HQ : Hid (∀ (wz : World) (vr : Value), R wz → Q .normal ⟨#[u0, .slice (some ⟨sb, so, none⟩) n c, u2, u3, u4, .pointer (some ⟨t, 0, none⟩), u6, .int .i64 (i : Int), u8, u9, aa, ab, ad, ae, af, ag, ah, ai, aj, ak, al, am, an, ao, ap, aq, au, av, aw, ax, ay, az, aA, .pointer (some ⟨t, 0, none⟩), .slice (some ⟨sb, so, none⟩) n c, .int .i64 (i : Int), .pointer (some ⟨sb, so + i * 3, none⟩), .pointer (some ⟨sb, so + i * 3 + 1, none⟩), .slice a.p a.n a.c, .slice (some ⟨sb, so, none⟩) n c, .int .i64 (i : Int), .pointer (some ⟨sb, so + i * 3, none⟩), .pointer (some ⟨sb, so + i * 3 + 2, none⟩), .slice b.p b.n b.c, vr, aN, aO, aP, aQ, aR, aS, aT, aU, aV, aW, aX, aY, aZ, a1], []⟩ wz)) : (Code.region 11 mk11o true).wp Tryz.prog Q ⟨#[u0, .slice (some ⟨sb, so, none⟩) n c, u2, u3, u4, .pointer (some ⟨t, 0, none⟩), u6, .int .i64 (i : Int), u8, u9, aa, ab, ad, ae, af, ag, ah, ai, aj, ak, al, am, an, ao, ap, aq, au, av, aw, ax, ay, az, aA, aB, aC, aD, aE, aF, aG, aH, aI, aJ, aK, aL, aM, aN, aO, aP, aQ, aR, aS, aT, aU, aV, aW, aX, aY, aZ, a1], []⟩ W := by
 unfold mk11o
 refine wp_region_noPanic ?_
 refine wp_region_held_drew (S := fun x => Below wq.heap.size wq x) (by kernel_rfl) (bl_trans HW.out (bl_drew W)) (fun hH0 => ?_)
 refine tj 0 mk11o_0 (.pointer (some ⟨t, 0, none⟩)) hH0 (fun w0 hSw => ?_) ?_
 ·(unfold mk11o_0 oO; clear hSw; go_simp)
 simp only [mk11o_0, oO, Act.put, sA, sB, sC]
 refine tj 1 mk11o_1 (.slice (some ⟨sb, so, none⟩) n c) hH0 (fun w0 hSw => ?_) ?_
 ·(unfold mk11o_1 oO; clear hSw; go_simp)
 simp only [mk11o_1, oO, Act.put, sA, sB, sC]
 refine tj 2 mk11o_2 (.int .i64 (i : Int)) hH0 (fun w0 hSw => ?_) ?_
 ·(unfold mk11o_2 oO; clear hSw; go_simp)
 simp only [mk11o_2, oO, Act.put, sA, sB, sC]
 refine tj 6 mk11o_6 (.slice (some ⟨sb, so, none⟩) n c) hH0 (fun w0 hSw => ?_) ?_
 ·(unfold mk11o_6 oO; clear hSw; go_simp)
 simp only [mk11o_6, oO, Act.put, sA, sB, sC]
 refine tj 7 mk11o_7 (.int .i64 (i : Int)) hH0 (fun w0 hSw => ?_) ?_
 ·(unfold mk11o_7 oO; clear hSw; go_simp)
 simp only [mk11o_7, oO, Act.put, sA, sB, sC]
 refine tj 3 mk11o_3 (.pointer (some ⟨sb, so + i * 3, none⟩)) hH0 (fun w0 hSw => ?_) ?_
 ·(unfold mk11o_3 oO; clear hSw; go_simp)
 simp only [mk11o_3, oO, Act.put, sA, sB, sC]
 refine tj 8 mk11o_8 (.pointer (some ⟨sb, so + i * 3, none⟩)) hH0 (fun w0 hSw => ?_) ?_
 ·(unfold mk11o_8 oO; clear hSw; go_simp)
 simp only [mk11o_8, oO, Act.put, sA, sB, sC]
 refine tj 4 mk11o_4 (.pointer (some ⟨sb, so + i * 3 + 1, none⟩)) hH0 (fun w0 hSw => ?_) ?_
 ·(unfold mk11o_4 oO; clear hSw; go_simp)
 simp only [mk11o_4, oO, Act.put, sA, sB, sC]
 refine tj 9 mk11o_9 (.pointer (some ⟨sb, so + i * 3 + 2, none⟩)) hH0 (fun w0 hSw => ?_) ?_
 ·(unfold mk11o_9 oO; clear hSw; go_simp)
 simp only [mk11o_9, oO, Act.put, sA, sB, sC]
 refine tj 5 mk11o_5 (.slice a.p a.n a.c) hH0 (fun w0 hSw => ?_) ?_
 ·(unfold mk11o_5 oO; have hS : Below wq.heap.size wq w0 := hSw; have a0 := cellL c1 hlt hS; clear hS hSw; go_simp)
 simp only [mk11o_5, oO, Act.put, sA, sB, sC]
 refine tj 10 mk11o_10 (.slice b.p b.n b.c) hH0 (fun w0 hSw => ?_) ?_
 ·(unfold mk11o_10 oO; have hS : Below wq.heap.size wq w0 := hSw; have a0 := cellL c2 hlt hS; clear hS hSw; go_simp)
 simp only [mk11o_10, oO, Act.put, sA, sB, sC]
 refine ar [11] ?_
 refine ac mk11o_11 (fun K hK => ?_) AllReadyH.nil
 unfold mk11o_11 oO
 have HH := Hn hH0
 clear hH0
 go_simp
 refine (C1.out).mono ?_
 rintro e wn1 ⟨vr, rfl, hR⟩
 have SN := Hn (RB.out _ hR)
 have FE := Hn (hR)
 clear HH C1 hR
 go_wp2_with fail
 refine hK.out _ _ SN.out (fun hH1 => ?_)
 clear hK K SN
 have HH := Hn hH1
 have FQ := Hn (HQ.out _ vr FE.out)
 refine wpAnyH_done (by kernel_rfl) ?_ _
 refine NoPanic.normal ?_
 exact FQ.out
end Ci
end Go.Proofs.YthngomhhafoamaaGreatDoor
namespace Go.Proofs.YthngomhhafoamaaGreatDoor
open Go.RowKit
open Cm (Wr Tm co bf Ls lf ins Eqm)
namespace Ci
def TsV (w : World) (t m K : Nat) (Q : List (List Tm)) (x : World) : Prop := Ts w t m K Q x ∧ m ≤ 16
theorem Scl.keep {w w' : World} {P : Option Addr} {n : Nat} {g : Nat → Stp} (h : Scl w P n g) (hb : Below w.heap.size w w') : Scl w' P n g := by
 obtain ⟨sb, so, h1, h2⟩ := h
 exact ⟨sb, so, h1, fun hn => ⟨fun k hk => cell_keep ((h2 hn).c0 k hk) hb, fun k hk => cell_keep ((h2 hn).c1 k hk) hb, fun k hk => cell_keep ((h2 hn).c2 k hk) hb, fun k hk => ((h2 hn).la k hk).keep hb, fun k hk => ((h2 hn).lb k hk).keep hb⟩⟩
set_option maxHeartbeats 16000000 in
theorem makes_tell (i : Int) (P : Option Addr) (n c : Nat) (g : Nat → Stp) (w : World) (hT : Tb w) (i0 : -9223372036854775808 ≤ i) (i1 : i ≤ 9223372036854775807) (hn : n ≤ 1048576) (hS : Scl w P n g) :
  Calls Tryz.prog 5 #[.int .i64 i, .slice P n c] w fun e w' => ∃ t m K Q, e = .returned (.pointer (some ⟨t, 0, none⟩)) ∧ TsV w t m K Q w' := by
 have CA := Hn (around_any 17 i w (.inl rfl) i0 i1)
 have HT := Hn hT
 have HS := Hn hS
 have HN := Hn hn
 clear i0 i1 hT hS hn
 go_enter Tryz.func5, Tryz.ntmps5
 go_upto_region 2 with (first | (go_at_call 24; refine CA.out.mono ?_; rintro e w1 ⟨m, rfl, hm, hw1⟩; have hw2 := hw1.symm; clear hw1; subst hw2; have HM := Hn hm; have C1 := Hn (New_any m w HT.out (by omega)); clear hm CA) | (go_at_call 16; refine C1.out.mono ?_; rintro e w2 ⟨rfl, hn⟩; have N1 := Hn (tsNew (by have := HM.out; omega) (Below.refl _ _) hn); clear hn C1))
 generalize w.heap.size = t0 at N1 ⊢
 go_upto_region 5 with fail
 go_loopw [5, 7] (fun sv iv w' => ∃ (i t K : Nat) (Q : List (List Tm)), i ≤ n ∧ sv = .pointer (some ⟨t, 0, none⟩) ∧ iv = .int .i64 (i : Int) ∧ Hid (Ts w t m K Q w')) (fun _ i _ => n - (intOf i).toNat)
 case atStart => exact ⟨0, _, _, _, by omega, rfl, rfl, N1⟩
 case round =>
  clear N1
  obtain ⟨i, t, K, Q, hi, rfl, rfl, hTs⟩ := hrel
  by_cases hin : i < n
  ·have i1 : (i : Int) < (n : Int) := by omega
   have i0 : (0 : Int) ≤ (i : Int) := by omega
   have w9 : IntKind.i64.wrap ((i : Int) + 1) = (i : Int) + 1 := IntWalk.i64_in _ (by have := HN.out; omega)
   obtain ⟨sb, so, hPs, hSc⟩ := HS.out
   obtain rfl := hPs (by omega)
   have sc := hSc (by omega)
   have hlt : sb < w.heap.size := World.block_lt_of_cell? w _ (sc.c0 i hin)
   have a0 := cell_keep (sc.c0 i hin) hTs.out.bl
   have a1 := cell_keep (sc.c1 i hin) hTs.out.bl
   have c1 := sc.c1 i hin
   have c2 := sc.c2 i hin
   have LA := Hn (sc.la i hin)
   have LB := Hn (sc.lb i hin)
   clear sc hSc hPs
   generalize (g i).a = a at *
   generalize (g i).b = b at *
   generalize (g i).q = q at *
   go_upto_region 8 with fail
   by_cases q1 : q = 1
   ·subst q1
    have C := Hn (tsGate hTs.out)
    clear a1 c1 c2
    go_wp2_with (go_at_call 12; refine C.out.mono ?_; rintro e w3 ⟨v3, rfl, K', Q', h3⟩; have N3 := Hn h3; clear h3)
    go_roundw
    case rel => exact ⟨i + 1, _, _, _, by omega, rfl, by go_num, N3⟩
    case measure => simp [intOf]; omega
   ·by_cases q2 : q = 2
    ·subst q2
     have C := Hn (tsMultiply HT.out (hTs.out.keep (bl_drew _)) a b (LA.out.keep (bl_trans hTs.out.bl (bl_drew _))) (LB.out.keep (bl_trans hTs.out.bl (bl_drew _))))
     have RB : Hid (∀ x, (∃ K' Q', Ts w t m K' Q' x) → Below w.heap.size w x) := Hn (fun x ⟨_, _, h⟩ => h.bl)
     go_upto_region 11 with fail
     refine mk11 _ sb so n c i t a b w (fun x => ∃ K' Q', Ts w t m K' Q' x) _ _ _ _ _ _ _ _ _ _ _ _ _ _ _ _ _ _ _ _ _ _ _ _ _ _ _ _ _ _ _ _ _ _ _ _ _ _ _ _ _ _ _ _ _ _ _ _ _ _ _ _ _ _ _ _ wr i0 i1 hlt (Hn hTs.out.bl) c1 c2 C RB (Hn ?_)
     rintro wz vr ⟨K', Q', h3⟩
     have N3 := Hn h3
     clear h3 C RB a0 a1 c1 c2
     go_wp2_with fail
     go_roundw
     case rel => exact ⟨i + 1, _, _, _, by omega, rfl, by go_num, N3⟩
     case measure => simp [intOf]; omega
    ·by_cases q3 : q = 3
     ·subst q3
      have C := Hn (tsRequire HT.out hTs.out a (LA.out.keep hTs.out.bl))
      clear c1 c2
      go_wp2_with (go_at_call 18; refine C.out.mono ?_; rintro e w3 ⟨v3, rfl, K', Q', h3⟩; have N3 := Hn h3; clear h3)
      go_roundw
      case rel => exact ⟨i + 1, _, _, _, by omega, rfl, by go_num, N3⟩
      case measure => simp [intOf]; omega
     ·by_cases q4 : q = 4
      ·subst q4
       have C := Hn (tsClone hTs.out)
       clear c1 c2 a1
       go_wp2_with (go_at_call 11; refine C.out.mono ?_; rintro e w3 ⟨t', rfl, h3⟩; have N3 := Hn h3; clear h3)
       go_roundw
       case rel => exact ⟨i + 1, _, _, _, by omega, rfl, by go_num, N3⟩
       case measure => simp [intOf]; omega
      ·clear c1 c2 a1
       go_wp2_with fail
       go_roundw
       case rel => exact ⟨i + 1, _, _, _, by omega, rfl, by go_num, hTs⟩
       case measure => simp [intOf]; omega
  ·obtain rfl : i = n := by omega
   have lq : ¬ (i : Int) < (i : Int) := by omega
   go_wp2_with fail
   refine bodyPost_ret (v := .pointer (some ⟨t, 0, none⟩)) (by simp [results, Tryz.results5, go_sem]) rfl ⟨t, rfl, m, K, Q, hTs.out, by have := HM.out; omega⟩
end Ci
end Go.Proofs.YthngomhhafoamaaGreatDoor
