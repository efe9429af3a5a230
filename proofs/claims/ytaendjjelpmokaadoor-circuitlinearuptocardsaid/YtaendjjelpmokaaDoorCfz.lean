import Derived.Test.YtaendjjelpmokaaDoorCev
import Derived.Test.YtaendjjelpmokaaDoorCek
namespace Go.Proofs.YtaendjjelpmokaaDoor
open Go.RowKit
set_option linter.unusedVariables false
set_option linter.unusedSimpArgs false
open Cm (Wr Tm co bf Ls lf ins Eqm)
namespace Ci
set_option maxRecDepth 100000
theorem glM_l (k : E4) (n : Nat) (f : Nat → Trm) : (glM k n f).length = n := by simp [glM]
theorem lfs_L (X : List Tm) : Ls Sm.L (lf Sm.L X) := Cm.lf_ls L0 X
section
variable {y : World} {P Q : Option Addr} {n m ca cb : Nat} {f g : Nat → Trm} {k : E4}
theorem w_least (hT : Tb y) (hn : n ≤ 2932031007402) (hf : ∀ k, k < n → (f k).a.ok) (hL : Lt y P n f) : Calls Tryd.prog 9 #[.slice P n ca] y fun e w' => Lw y (lf Sm.L (glL n f)) e w' :=
 (Least_lin P n ca f y hT hn hf hL).mono fun e w' h => lq_w h
theorem w_add (hT : Tb y) (hn : n + m ≤ 2932031007402) (hf : ∀ k, k < n → (f k).a.ok) (hg : ∀ k, k < m → (g k).a.ok) (hL : Lt y P n f) (hL2 : Lt y Q m g) : Calls Tryd.prog 10 #[.slice P n ca, .slice Q m cb] y fun e w' => Lw y (lf Sm.L (glL n f ++ glL m g)) e w' :=
 (Add_lin P Q n ca m cb f g y hT hn hf hg hL hL2).mono fun e w' h => lq_w h
theorem w_sub (hT : Tb y) (hn : n + m ≤ 2932031007402) (hf : ∀ k, k < n → (f k).a.ok) (hg : ∀ k, k < m → (g k).a.ok) (hL : Lt y P n f) (hL2 : Lt y Q m g) : Calls Tryd.prog 7 #[.slice P n ca, .slice Q m cb] y fun e w' => Lw y (lf Sm.L (glL n f ++ glN m g)) e w' :=
 (Sub_lin P Q n ca m cb f g y hT hn hf hg hL hL2).mono fun e w' h => lq_w h
theorem w_times (hT : Tb y) (hn : n ≤ 2932031007402) (hk : k.ok) (hf : ∀ k, k < n → (f k).a.ok) (hL : Lt y P n f) : Calls Tryd.prog 11 #[.slice P n ca, .agg #[.int .u64 k.x0, .int .u64 k.x1, .int .u64 k.x2, .int .u64 k.x3]] y fun e w' => Lw y (lf Sm.L (glM k n f)) e w' :=
 (Times_any P n ca f k y hT hn hk hf hL).mono fun e w' h => lq_w h
theorem w_const (hT : Tb y) (hk : k.ok) : Calls Tryd.prog 13 #[.agg #[.int .u64 k.x0, .int .u64 k.x1, .int .u64 k.x2, .int .u64 k.x3]] y fun e w' => Lw y (lf Sm.L (glM k 1 oneT)) e w' :=
 (Const_any k y hT hk).mono fun e w' h => lq_w h
theorem w_of (q : Wr) : Calls Tryd.prog 19 #[.agg #[.int .i64 q.1, .int .i64 q.2]] y fun e w' => Lw y [(q, 1)] e w' :=
 (Of_any q y).mono fun e w' h => lq_w h
theorem w_zero (hT : Tb y) (hn : n ≤ 2932031007402) (hf : ∀ k, k < n → (f k).a.ok) (hL : Lt y P n f) : Calls Tryd.prog 11 #[.slice P n ca, .agg #[.int .u64 0, .int .u64 0, .int .u64 0, .int .u64 0]] y fun e w' => ∃ p c, e = .returned (.slice p 0 c) ∧ Below y.heap.size y w' := by
 have hz : (⟨0, 0, 0, 0⟩ : E4).ok := by have := lst_ok 0; rwa [show lst 0 = (⟨0, 0, 0, 0⟩ : E4) from (int_is 0 (by unfold Sm.Wd; omega))] at this
 refine (w_times (k := ⟨0, 0, 0, 0⟩) (ca := ca) hT hn hz hf hL).mono fun e w' h => ?_
 obtain ⟨p, c, he, _, hb⟩ := h
 rw [lf_zero n f ⟨0, 0, 0, 0⟩ (by simp [E4.n, Sm.V])] at he
 exact ⟨p, c, he, hb⟩
theorem m8_1 : eqB (lf Sm.L (glL n f)) (lf Sm.L (glL m g)) = decide ((lf Sm.L (glL n f ++ glN m g)).length = 0) := by
 rw [Bool.eq_iff_iff, eqB_iff (lfs_L _) (lfs_L _), decide_eq_true_iff, List.length_eq_zero_iff, lf_nil_iff]
theorem m8_2 : eqB (lf Sm.L (glL n f ++ glL m g)) (lf Sm.L (glL m g ++ glL n f)) = true := by
 rw [eqB_iff (lfs_L _) (lfs_L _)]
 exact lf_comm _ _
theorem m8_3 : eqB (lf Sm.L (glL (lf Sm.L (glL n f ++ glN m g)).length (ft (lf Sm.L (glL n f ++ glN m g))) ++ glL m g)) (lf Sm.L (glL n f)) = true := by
 rw [eqB_iff (lfs_L _) (lfs_L _), glft_ls (lfs_L _)]
 exact lf_back _ _ _
theorem m8_4 : eqB (lf Sm.L (glL (lf Sm.L (glM k n f)).length (ft (lf Sm.L (glM k n f))))) (lf Sm.L (glM k (lf Sm.L (glL n f)).length (ft (lf Sm.L (glL n f))))) = true := by
 rw [eqB_iff (lfs_L _) (lfs_L _), glft_ls (lfs_L _)]
 refine Cm.lf_congr L0 (fun q => ?_)
 rw [Cm.lf_eqm, co_mul, co_mul, glft_ls (lfs_L _), Int.mul_emod, Int.mul_emod k.n (co (lf Sm.L (glL n f)) q), Cm.lf_eqm]
end
end Ci
end Go.Proofs.YtaendjjelpmokaaDoor
namespace Go.Proofs.YtaendjjelpmokaaDoor
open Go.RowKit
set_option linter.unusedVariables false
set_option linter.unusedSimpArgs false
open Cm (Wr Tm co bf Ls lf ins Eqm)
namespace Ci
set_option maxRecDepth 100000
def eN (m K : Nat) (X : List Tm) : Prop := nm m K (lf Sm.L X).length (ft (lf Sm.L X)) = true
instance (m K : Nat) (X : List Tm) : Decidable (eN m K X) := inferInstanceAs (Decidable (_ = true))
def eE (m K : Nat) (X : List Tm) : Int := if eN m K X then 0 else 200
def eS (N : Nat → Sl) (m K : Nat) (X : List Tm) : E4 := if eN m K X then lst (vl N X) else ⟨0, 0, 0, 0⟩
theorem lf_lf (Y : List Tm) : lf Sm.L (lf Sm.L Y) = lf Sm.L Y := Cm.lf_congr L0 (fun q => Cm.lf_eqm Y q)
theorem eN_lf (m K : Nat) (Y : List Tm) : eN m K (lf Sm.L Y) = eN m K Y := by unfold eN; rw [lf_lf]
theorem eE_lf (m K : Nat) (Y : List Tm) : eE m K (lf Sm.L Y) = eE m K Y := by unfold eE; simp only [eN_lf]
theorem eS_lf (N : Nat → Sl) (m K : Nat) (Y : List Tm) : eS N m K (lf Sm.L Y) = eS N m K Y := by unfold eS; simp only [eN_lf]; rw [lst_congr (vl_lf N Y)]
theorem eS_ok (N : Nat → Sl) (m K : Nat) (Y : List Tm) : (eS N m K Y).ok := by
 unfold eS
 split
 ·exact lst_ok _
 ·have := lst_ok 0
  rwa [show lst 0 = (⟨0, 0, 0, 0⟩ : E4) from (int_is 0 (by unfold Sm.Wd; omega))] at this
theorem fit_B {a b c d : Sl} {m K : Nat} (h : a.n = K ∧ b.n = K ∧ c.n = K ∧ d.n = m) : ftB (nms 0 a b c d) m K = true := by
 rw [ftB_iff]
 intro k hk
 obtain ⟨h1, h2, h3, h4⟩ := h
 match k, hk with
 | 0, _ => rfl
 | 1, _ => rfl
 | 2, _ => exact h1
 | 3, _ => exact h2
 | 4, _ => exact h3
 | 5, _ => exact h4
theorem ev_E {a b c d : Sl} {m K : Nat} (h : a.n = K ∧ b.n = K ∧ c.n = K ∧ d.n = m) (X : List Tm) : evE (nms 0 a b c d) m K (lf Sm.L X) = eE m K X := by
 unfold evE eE eN
 rw [if_pos (fit_B h)]
 rfl
theorem ev_S {a b c d : Sl} {m K : Nat} (h : a.n = K ∧ b.n = K ∧ c.n = K ∧ d.n = m) (X : List Tm) : evS (nms 0 a b c d) m K (lf Sm.L X) = eS (nms 0 a b c d) m K X := by
 unfold evS eS eN
 rw [if_pos (fit_B h), es_lf]
 rfl
theorem tsEval {w9 y : World} {t m K : Nat} {Q : List (List Tm)} (h : Ts w9 t m K Q y) (hT : Tb y) {a b c d : Sl} (hA : a.at y ∧ b.at y ∧ c.at y ∧ d.at y) (hN : a.n = K ∧ b.n = K ∧ c.n = K ∧ d.n = m) {P : Option Addr} {n e0 : Nat} {f : Nat → Trm} (hn : n ≤ 2932031007402) (hf : ∀ k, k < n → (f k).a.ok) (hL : Lt y P n f) :
  Calls Tryd.prog 12 #[.pointer (some ⟨t, 0, none⟩), .agg #[.slice a.p a.n a.c, .slice b.p b.n b.c, .slice c.p c.n c.c, .slice d.p d.n d.c], .slice P n e0] y fun e w' => e = .returned (.tuple #[.agg #[.int .u64 (eS (nms 0 a b c d) m K (glL n f)).x0, .int .u64 (eS (nms 0 a b c d) m K (glL n f)).x1, .int .u64 (eS (nms 0 a b c d) m K (glL n f)).x2, .int .u64 (eS (nms 0 a b c d) m K (glL n f)).x3], .int .i64 (eE m K (glL n f))]) ∧ Below y.heap.size y w' := by
 obtain ⟨base, v, vs, sy, hb, bl, wk⟩ := h
 have hE := Eval_any sy hT a b c d hA.1 hA.2.1 hA.2.2.1 hA.2.2.2 P n e0 f hn hf hL
 rw [ev_E hN, ev_S hN] at hE
 exact hE
theorem tsEvalL {w9 y : World} {t m K : Nat} {Q : List (List Tm)} (h : Ts w9 t m K Q y) (hT : Tb y) {a b c d : Sl} (hA : a.at y ∧ b.at y ∧ c.at y ∧ d.at y) (hN : a.n = K ∧ b.n = K ∧ c.n = K ∧ d.n = m) {P : Option Addr} {e0 : Nat} {Y : List Tm} (hn : (lf Sm.L Y).length ≤ 2932031007402) (hL : Lt y P (lf Sm.L Y).length (ft (lf Sm.L Y))) :
  Calls Tryd.prog 12 #[.pointer (some ⟨t, 0, none⟩), .agg #[.slice a.p a.n a.c, .slice b.p b.n b.c, .slice c.p c.n c.c, .slice d.p d.n d.c], .slice P (lf Sm.L Y).length e0] y fun e w' => e = .returned (.tuple #[.agg #[.int .u64 (eS (nms 0 a b c d) m K Y).x0, .int .u64 (eS (nms 0 a b c d) m K Y).x1, .int .u64 (eS (nms 0 a b c d) m K Y).x2, .int .u64 (eS (nms 0 a b c d) m K Y).x3], .int .i64 (eE m K Y)]) ∧ Below y.heap.size y w' := by
 have hE := tsEval h hT hA hN (e0 := e0) hn (fun k hk => lst_ok _) hL
 rw [glft_ls (lfs_L _), eE_lf, eS_lf] at hE
 exact hE
theorem same_T {x y : Int} (h : x % Sm.L = y % Sm.L) : (lst x).same (lst y) = true := by rw [same_dec]; exact decide_eq_true h
theorem eN_add {m K : Nat} {X Y : List Tm} (h1 : eN m K X) (h2 : eN m K Y) : eN m K (X ++ Y) := nm_add h1 h2
theorem eN_sub {m K n' : Nat} {X : List Tm} {g : Nat → Trm} (h1 : eN m K X) (h2 : eN m K (glL n' g)) : eN m K (X ++ glN n' g) := nm_add h1 (nm_negN h2)
theorem eN_mul {m K n : Nat} {k : E4} {f : Nat → Trm} (h : eN m K (glL n f)) : eN m K (glM k n f) := nm_mulM h
theorem eS_at {N : Nat → Sl} {m K : Nat} {X : List Tm} (h : eN m K X) : eS N m K X = lst (vl N X) := if_pos h
theorem eE_0 {m K : Nat} {X : List Tm} (h : eN m K X) : eE m K X = 0 := if_pos h
theorem eE_1 {m K : Nat} {X : List Tm} (h : ¬ eN m K X) : eE m K X = 200 := if_neg h
end Ci
end Go.Proofs.YtaendjjelpmokaaDoor
namespace Go.Proofs.YtaendjjelpmokaaDoor
open Go.RowKit
set_option linter.unusedVariables false
set_option linter.unusedSimpArgs false
open Cm (Wr Tm co bf Ls lf ins Eqm)
namespace Ci
theorem same_C {p q : E4} {y : World} (hT : Tb y) (hp : p.ok) (hq : q.ok) (h : p.n % Sm.L = q.n % Sm.L) :
  Calls Tryd.prog 14 #[.agg #[.int .u64 p.x0, .int .u64 p.x1, .int .u64 p.x2, .int .u64 p.x3], .agg #[.int .u64 q.x0, .int .u64 q.x1, .int .u64 q.x2, .int .u64 q.x3]] y fun e w' => e = .returned (.bool true) ∧ Below y.heap.size y w' := by
 have := Same_any p q y hT hp hq
 rw [same_T h] at this
 exact this
theorem add_C (p q : E4) {y : World} (hT : Tb y) (hp : p.ok) (hq : q.ok) :
  Calls Tryd.prog 15 #[.agg #[.int .u64 p.x0, .int .u64 p.x1, .int .u64 p.x2, .int .u64 p.x3], .agg #[.int .u64 q.x0, .int .u64 q.x1, .int .u64 q.x2, .int .u64 q.x3]] y fun e w' => e = .returned (.agg #[.int .u64 (lst (p.n + q.n)).x0, .int .u64 (lst (p.n + q.n)).x1, .int .u64 (lst (p.n + q.n)).x2, .int .u64 (lst (p.n + q.n)).x3]) ∧ Below y.heap.size y w' :=
 fix (Add_any p q y hT hp hq) rfl
theorem sub_C (p q : E4) {y : World} (hT : Tb y) (hp : p.ok) (hq : q.ok) :
  Calls Tryd.prog 16 #[.agg #[.int .u64 p.x0, .int .u64 p.x1, .int .u64 p.x2, .int .u64 p.x3], .agg #[.int .u64 q.x0, .int .u64 q.x1, .int .u64 q.x2, .int .u64 q.x3]] y fun e w' => e = .returned (.agg #[.int .u64 (lst (p.n - q.n)).x0, .int .u64 (lst (p.n - q.n)).x1, .int .u64 (lst (p.n - q.n)).x2, .int .u64 (lst (p.n - q.n)).x3]) ∧ Below y.heap.size y w' :=
 fix (Sub_any p q y hT hp hq) rfl
theorem mul_C (p q : E4) {y : World} (hT : Tb y) (hp : p.ok) (hq : q.ok) :
  Calls Tryd.prog 17 #[.agg #[.int .u64 p.x0, .int .u64 p.x1, .int .u64 p.x2, .int .u64 p.x3], .agg #[.int .u64 q.x0, .int .u64 q.x1, .int .u64 q.x2, .int .u64 q.x3]] y fun e w' => e = .returned (.agg #[.int .u64 (lst (p.n * q.n)).x0, .int .u64 (lst (p.n * q.n)).x1, .int .u64 (lst (p.n * q.n)).x2, .int .u64 (lst (p.n * q.n)).x3]) ∧ Below y.heap.size y w' :=
 fix (Mul_any p q y hT hp hq) rfl
theorem lst_md (n : Int) : (lst n).n % Sm.L = n % Sm.L := by rw [lst_n, emod_emod_L]
variable {N : Nat → Sl} {m K n n' : Nat} {X Y : List Tm} {f g : Nat → Trm} {k : E4}
theorem s_add (h1 : eN m K X) (h2 : eN m K Y) : (eS N m K (X ++ Y)).n % Sm.L = (lst ((eS N m K X).n + (eS N m K Y).n)).n % Sm.L := by
 rw [eS_at h1, eS_at h2, eS_at (eN_add h1 h2), lst_md, lst_md, vl_app, Int.add_emod (lst _).n, lst_md, lst_md, ← Int.add_emod]
theorem s_sub (h1 : eN m K X) (h2 : eN m K (glL n' g)) : (eS N m K (X ++ glN n' g)).n % Sm.L = (lst ((eS N m K X).n - (eS N m K (glL n' g)).n)).n % Sm.L := by
 rw [eS_at h1, eS_at h2, eS_at (eN_sub h1 h2), lst_md, lst_md, vl_app, vl_neg, Int.sub_emod (lst _).n, lst_md, lst_md, ← Int.sub_emod]
 rfl
theorem s_mul (h1 : eN m K (glL n f)) : (eS N m K (glM k n f)).n % Sm.L = (lst (k.n * (eS N m K (glL n f)).n)).n % Sm.L := by
 rw [eS_at h1, eS_at (eN_mul h1), lst_md, lst_md, vl_mul, Int.mul_emod k.n (lst _).n, lst_md, ← Int.mul_emod]
theorem eN_one {q : Wr} {c : Int} (h : hs m K q = true) : eN m K [(q, c)] := by
 unfold eN
 rw [nm_iff]
 intro p hp
 by_cases e : q = p
 ·rw [← e]; exact h
 ·exact absurd (by rw [Cm.co_cons, if_neg e, Cm.co_nil]; rfl) hp
theorem s_one {q : Wr} {c : Int} (h : hs m K q = true) : (eS N m K [(q, c)]).n % Sm.L = (c * (nw N q).n) % Sm.L := by
 rw [eS_at (eN_one h), lst_md]
 simp [vl]
theorem hs_c : hs m K (1, 0) = true := by simp [hs, ct]
theorem s_const {a b c d : Sl} : (eS (nms 0 a b c d) m K (glM k 1 oneT)).n % Sm.L = k.n % Sm.L := by
 rw [glM1o, s_one hs_c]
 have : (nw (nms 0 a b c d) (1, 0)).n = 1 := lst_small (by omega) (by omega)
 rw [this, Int.mul_one]
theorem lf_one (q : Wr) : lf Sm.L [(q, 1)] = [(q, 1)] := by
 refine (Cm.lf_only L0 (X := [(q, 1)]) ⟨by simp, ?_⟩ (fun _ => rfl)).symm
 intro x hx
 simp only [List.mem_singleton] at hx
 subst hx
 exact ⟨by show (0 : Int) < 1; omega, by show (1 : Int) < Sm.L; decide⟩
theorem tsEval1 {w9 y : World} {t m K : Nat} {Q : List (List Tm)} (q : Wr) (h : Ts w9 t m K Q y) (hT : Tb y) {a b c d : Sl} (hA : a.at y ∧ b.at y ∧ c.at y ∧ d.at y) (hN : a.n = K ∧ b.n = K ∧ c.n = K ∧ d.n = m) {P : Option Addr} {e0 : Nat} (hL : Lt y P ([(q, 1)] : List Tm).length (ft [(q, 1)])) :
  Calls Tryd.prog 12 #[.pointer (some ⟨t, 0, none⟩), .agg #[.slice a.p a.n a.c, .slice b.p b.n b.c, .slice c.p c.n c.c, .slice d.p d.n d.c], .slice P ([(q, 1)] : List Tm).length e0] y fun e w' => e = .returned (.tuple #[.agg #[.int .u64 (eS (nms 0 a b c d) m K [(q, 1)]).x0, .int .u64 (eS (nms 0 a b c d) m K [(q, 1)]).x1, .int .u64 (eS (nms 0 a b c d) m K [(q, 1)]).x2, .int .u64 (eS (nms 0 a b c d) m K [(q, 1)]).x3], .int .i64 (eE m K [(q, 1)])]) ∧ Below y.heap.size y w' := by
 have hE := tsEvalL (Y := [(q, 1)]) h hT hA hN (e0 := e0) (by rw [lf_one]; show 1 ≤ 2932031007402; omega) (by rw [lf_one]; exact hL)
 rw [lf_one] at hE
 exact hE
section
variable {a b c d : Sl} {i : Nat}
theorem hs_2 (hi : i < K) : hs m K (2, (i : Int)) = true := by simp [hs, ct, hi]
theorem hs_3 (hi : i < K) : hs m K (3, (i : Int)) = true := by simp [hs, ct, hi]
theorem hs_4 (hi : i < K) : hs m K (4, (i : Int)) = true := by simp [hs, ct, hi]
theorem s_row2 (hi : i < K) : (eS (nms 0 a b c d) m K [((2, (i : Int)), 1)]).n % Sm.L = (a.g i).n % Sm.L := by
 rw [s_one (hs_2 hi), Int.one_mul]; rfl
theorem s_row3 (hi : i < K) : (eS (nms 0 a b c d) m K [((3, (i : Int)), 1)]).n % Sm.L = (b.g i).n % Sm.L := by
 rw [s_one (hs_3 hi), Int.one_mul]; rfl
theorem s_row4 (hi : i < K) : (eS (nms 0 a b c d) m K [((4, (i : Int)), 1)]).n % Sm.L = (c.g i).n % Sm.L := by
 rw [s_one (hs_4 hi), Int.one_mul]; rfl
end
end Ci
end Go.Proofs.YtaendjjelpmokaaDoor
namespace Go.Proofs.YtaendjjelpmokaaDoor
open Go.RowKit
set_option linter.unusedVariables false
set_option linter.unusedSimpArgs false
open Cm (Wr Tm co bf Ls lf ins Eqm)
namespace Ci
set_option maxRecDepth 100000
def TsV (w : World) (t m K : Nat) (Q : List (List Tm)) (x : World) : Prop := Ts w t m K Q x ∧ m ≤ 16
theorem Scl.keep {w w' : World} {P : Option Addr} {n : Nat} {g : Nat → Stp} (h : Scl w P n g) (hb : Below w.heap.size w w') : Scl w' P n g := by
 obtain ⟨sb, so, h1, h2⟩ := h
 exact ⟨sb, so, h1, fun hn => ⟨fun k hk => cell_keep ((h2 hn).c0 k hk) hb, fun k hk => cell_keep ((h2 hn).c1 k hk) hb, fun k hk => cell_keep ((h2 hn).c2 k hk) hb, fun k hk => ((h2 hn).la k hk).keep hb, fun k hk => ((h2 hn).lb k hk).keep hb⟩⟩
set_option maxHeartbeats 16000000 in
theorem makes_tell (i : Int) (P : Option Addr) (n c : Nat) (g : Nat → Stp) (w : World) (hT : Tb w) (i0 : -9223372036854775808 ≤ i) (i1 : i ≤ 9223372036854775807) (hn : n ≤ 1048576) (hS : Scl w P n g) :
  Calls Tryd.prog 5 #[.int .i64 i, .slice P n c] w fun e w' => ∃ t m K Q, e = .returned (.pointer (some ⟨t, 0, none⟩)) ∧ TsV w t m K Q w' := by
 have CA := hidden (around_any 17 i w (.inl rfl) i0 i1)
 have HT := hidden hT
 have HS := hidden hS
 have HN := hidden hn
 clear i0 i1 hT hS hn
 go_enter Tryd.func5, Tryd.ntmps5
 go_upto_region 2 with (first | (go_at_call 25; refine CA.out.mono ?_; rintro e w1 ⟨m, rfl, hm, hw1⟩; have hw2 := hw1.symm; clear hw1; subst hw2; have HM := hidden hm; have C1 := hidden (New_any m w HT.out (by omega)); clear hm CA) | (go_at_call 20; refine C1.out.mono ?_; rintro e w2 ⟨rfl, hn⟩; have N1 := hidden (tsNew (by have := HM.out; omega) (Below.refl _ _) hn); clear hn C1))
 generalize w.heap.size = t0 at N1 ⊢
 go_upto_region 5 with fail
 go_loopw [5, 7] (fun sv iv w' => ∃ (i t K : Nat) (Q : List (List Tm)), i ≤ n ∧ sv = .pointer (some ⟨t, 0, none⟩) ∧ iv = .int .i64 (i : Int) ∧ Hid (Ts w t m K Q w')) (fun _ i _ => n - (intOf i).toNat)
 case atStart => exact ⟨0, _, _, _, by omega, rfl, rfl, N1⟩
 case round =>
  clear N1
  obtain ⟨i, t, K, Q, hi, rfl, rfl, hTs⟩ := hrel
  by_cases hin : i < n
  ·have i1 : (i : Int) < (n : Int) := by omega
   have i0 : (0 : Int) ≤ (i : Int) := by omega
   have w9 : IntKind.i64.wrap ((i : Int) + 1) = (i : Int) + 1 := IntWalk.i64_in _ (by have := HN.out; omega)
   obtain ⟨sb, so, hPs, hSc⟩ := HS.out
   obtain rfl := hPs (by omega)
   have sc := hSc (by omega)
   have hlt : sb < w.heap.size := World.block_lt_of_cell? w _ (sc.c0 i hin)
   have a0 := cell_keep (sc.c0 i hin) hTs.out.bl
   have a1 := cell_keep (sc.c1 i hin) hTs.out.bl
   have c1 := sc.c1 i hin
   have c2 := sc.c2 i hin
   have LA := hidden (sc.la i hin)
   have LB := hidden (sc.lb i hin)
   clear sc hSc hPs
   generalize (g i).a = a at *
   generalize (g i).b = b at *
   generalize (g i).q = q at *
   go_upto_region 8 with fail
   by_cases q1 : q = 1
   ·subst q1
    have C := hidden (tsGate hTs.out)
    clear a1 c1 c2
    go_wp2_with (go_at_call 26; refine C.out.mono ?_; rintro e w3 ⟨v3, rfl, K', Q', h3⟩; have N3 := hidden h3; clear h3)
    go_roundw
    case rel => exact ⟨i + 1, _, _, _, by omega, rfl, by go_num, N3⟩
    case measure => simp [intOf]; omega
   ·by_cases q2 : q = 2
    ·subst q2
     have C := hidden (tsMultiply HT.out (hTs.out.keep (bl_drew _)) a b (LA.out.keep (bl_trans hTs.out.bl (bl_drew _))) (LB.out.keep (bl_trans hTs.out.bl (bl_drew _))))
     have RB : Hid (∀ x, (∃ K' Q', Ts w t m K' Q' x) → Below w.heap.size w x) := hidden (fun x ⟨_, _, h⟩ => h.bl)
     go_upto_region 11 with fail
     refine mk11 _ sb so n c i t a b w (fun x => ∃ K' Q', Ts w t m K' Q' x) _ _ _ _ _ _ _ _ _ _ _ _ _ _ _ _ _ _ _ _ _ _ _ _ _ _ _ _ _ _ _ _ _ _ _ _ _ _ _ _ _ _ _ _ _ _ _ _ _ _ _ _ _ _ _ _ wr i0 i1 hlt (hidden hTs.out.bl) c1 c2 C RB (hidden ?_)
     rintro wz vr ⟨K', Q', h3⟩
     have N3 := hidden h3
     clear h3 C RB a0 a1 c1 c2
     go_wp2_with fail
     go_roundw
     case rel => exact ⟨i + 1, _, _, _, by omega, rfl, by go_num, N3⟩
     case measure => simp [intOf]; omega
    ·by_cases q3 : q = 3
     ·subst q3
      have C := hidden (tsRequire HT.out hTs.out a (LA.out.keep hTs.out.bl))
      clear c1 c2
      go_wp2_with (go_at_call 21; refine C.out.mono ?_; rintro e w3 ⟨v3, rfl, K', Q', h3⟩; have N3 := hidden h3; clear h3)
      go_roundw
      case rel => exact ⟨i + 1, _, _, _, by omega, rfl, by go_num, N3⟩
      case measure => simp [intOf]; omega
     ·by_cases q4 : q = 4
      ·subst q4
       have C := hidden (tsClone hTs.out)
       clear c1 c2 a1
       go_wp2_with (go_at_call 28; refine C.out.mono ?_; rintro e w3 ⟨t', rfl, h3⟩; have N3 := hidden h3; clear h3)
       go_roundw
       case rel => exact ⟨i + 1, _, _, _, by omega, rfl, by go_num, N3⟩
       case measure => simp [intOf]; omega
      ·clear c1 c2 a1
       go_wp2_with fail
       go_roundw
       case rel => exact ⟨i + 1, _, _, _, by omega, rfl, by go_num, hTs⟩
       case measure => simp [intOf]; omega
  ·obtain rfl : i = n := by omega
   have lq : ¬ (i : Int) < (i : Int) := by omega
   go_wp2_with fail
   refine bodyPost_ret (v := .pointer (some ⟨t, 0, none⟩)) (by simp [results, Tryd.results5, go_sem]) rfl ⟨t, rfl, m, K, Q, hTs.out, by have := HM.out; omega⟩
end Ci
end Go.Proofs.YtaendjjelpmokaaDoor
