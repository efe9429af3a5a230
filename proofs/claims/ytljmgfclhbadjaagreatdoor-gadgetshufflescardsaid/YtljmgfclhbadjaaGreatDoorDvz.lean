import Derived.Test.YtljmgfclhbadjaaGreatDoorDjz
import Derived.Test.YtljmgfclhbadjaaGreatDoorTk
namespace Go.Proofs.YtljmgfclhbadjaaGreatDoor
open Go.RowKit
set_option linter.unusedVariables false
set_option linter.unusedSimpArgs false
open Cm (Wr Tm co bf Ls lf ins Eqm)
namespace Ci
set_option maxRecDepth 100000
set_option maxHeartbeats 4000000
def vl (g : Wr → Int) : List Tm → Int
 | [] => 0
 | x :: X => x.2 * g x.1 + vl g X
section
variable {g h : Wr → Int} {L : Int}
theorem vl_app (X Y : List Tm) : vl g (X ++ Y) = vl g X + vl g Y := by
 induction X with
 | nil => simp [vl]
 | cons x X ih => simp only [List.cons_append, vl, ih]; omega
theorem vl_congr {X : List Tm} (e : ∀ x ∈ X, g x.1 = h x.1) : vl g X = vl h X := by
 induction X with
 | nil => rfl
 | cons x X ih => simp only [vl]; rw [e x (by simp), ih (fun y hy => e y (by simp [hy]))]
theorem md_mul (a b : Int) : (a % L * b - a * b) % L = 0 := by
 rw [← Int.sub_mul, Int.mul_emod, Int.sub_emod, Int.emod_emod_of_dvd _ (Int.dvd_refl _), Int.sub_self]
 simp
theorem md_of {a b : Int} (e : (a - b) % L = 0) : a % L = b % L := Int.emod_eq_emod_iff_emod_sub_eq_zero.2 e
theorem md_to {a b : Int} (e : a % L = b % L) : (a - b) % L = 0 := Int.emod_eq_emod_iff_emod_sub_eq_zero.1 e
theorem md_add {a b c d : Int} (h1 : (a - b) % L = 0) (h2 : (c - d) % L = 0) : (a + c - (b + d)) % L = 0 := by
 rw [show a + c - (b + d) = (a - b) + (c - d) by omega, Int.add_emod, h1, h2]; simp
theorem ins_vl (t : Tm) : ∀ X : List Tm, (vl g (ins L X t) - (vl g X + t.2 * g t.1)) % L = 0
 | [] => by
  unfold ins
  split
  ·rename_i e
   simp only [vl]
   rw [show (0 : Int) - (0 + t.2 * g t.1) = -(t.2 * g t.1) by omega]
   have : L ∣ t.2 * g t.1 := Int.dvd_trans (Int.dvd_of_emod_eq_zero e) (Int.dvd_mul_right _ _)
   exact Int.emod_eq_zero_of_dvd (Int.dvd_neg.2 this)
  ·simp only [vl]
   have := md_mul (L := L) t.2 (g t.1)
   rwa [show t.2 % L * g t.1 + 0 - (0 + t.2 * g t.1) = t.2 % L * g t.1 - t.2 * g t.1 by omega]
 | x :: X => by
  unfold ins
  have ih := ins_vl t X
  split
  ·rename_i e
   split
   ·rename_i e2
    simp only [vl]
    rw [e, show vl g X - (x.2 * g t.1 + vl g X + t.2 * g t.1) = -((x.2 + t.2) * g t.1) by rw [Int.add_mul]; omega]
    have : L ∣ (x.2 + t.2) * g t.1 := Int.dvd_trans (Int.dvd_of_emod_eq_zero e2) (Int.dvd_mul_right _ _)
    exact Int.emod_eq_zero_of_dvd (Int.dvd_neg.2 this)
   ·simp only [vl]
    have := md_mul (L := L) (x.2 + t.2) (g t.1)
    rw [e]
    rwa [show (x.2 + t.2) % L * g t.1 + vl g X - (x.2 * g t.1 + vl g X + t.2 * g t.1) = (x.2 + t.2) % L * g t.1 - (x.2 + t.2) * g t.1 by rw [Int.add_mul]; omega]
  ·split
   ·split
    ·rename_i e2
     simp only [vl]
     rw [show x.2 * g x.1 + vl g X - (x.2 * g x.1 + vl g X + t.2 * g t.1) = -(t.2 * g t.1) by omega]
     have : L ∣ t.2 * g t.1 := Int.dvd_trans (Int.dvd_of_emod_eq_zero e2) (Int.dvd_mul_right _ _)
     exact Int.emod_eq_zero_of_dvd (Int.dvd_neg.2 this)
    ·simp only [vl]
     have := md_mul (L := L) t.2 (g t.1)
     rwa [show t.2 % L * g t.1 + (x.2 * g x.1 + vl g X) - (x.2 * g x.1 + vl g X + t.2 * g t.1) = t.2 % L * g t.1 - t.2 * g t.1 by omega]
   ·simp only [vl]
    rwa [show x.2 * g x.1 + vl g (ins L X t) - (x.2 * g x.1 + vl g X + t.2 * g t.1) = vl g (ins L X t) - (vl g X + t.2 * g t.1) by omega]
theorem foldl_vl (Y : List Tm) : ∀ X : List Tm, (vl g (Y.foldl (ins L) X) - (vl g X + vl g Y)) % L = 0 := by
 induction Y with
 | nil => intro X; simp [vl]
 | cons y Y ih =>
  intro X
  rw [List.foldl_cons]
  have := md_add (ih (ins L X y)) (ins_vl (g := g) (L := L) y X)
  simp only [vl]
  rwa [show vl g (List.foldl (ins L) (ins L X y) Y) + vl g (ins L X y) - (vl g (ins L X y) + vl g Y + (vl g X + y.2 * g y.1)) = vl g (List.foldl (ins L) (ins L X y) Y) - (vl g X + (y.2 * g y.1 + vl g Y)) by omega] at this
theorem lf_vl (X : List Tm) : vl g (lf L X) % L = vl g X % L := md_of (by have := foldl_vl (g := g) (L := L) X []; simp only [vl, Int.zero_add] at this; exact this)
theorem vl_mapM (X : List Tm) (k : Int → Int) (c : Int) (hk : ∀ a, (k a - c * a) % L = 0) : (vl g (X.map fun x => (x.1, k x.2)) - c * vl g X) % L = 0 := by
 induction X with
 | nil => simp [vl]
 | cons x X ih =>
  simp only [List.map_cons, vl]
  have h1 : (k x.2 * g x.1 - c * x.2 * g x.1) % L = 0 := by
   rw [← Int.sub_mul]
   exact Int.emod_eq_zero_of_dvd (Int.dvd_trans (Int.dvd_of_emod_eq_zero (hk x.2)) (Int.dvd_mul_right _ _))
  have := md_add h1 ih
  rwa [show c * (x.2 * g x.1 + vl g X) = c * x.2 * g x.1 + c * vl g X by rw [Int.mul_add, Int.mul_assoc]]
theorem tot_succ (f : Nat → Int) : ∀ n, tot f (n + 1) = f 0 + tot (fun k => f (k + 1)) n
 | 0 => by show tot f 0 + f 0 = f 0 + 0; show 0 + f 0 = _; omega
 | n + 1 => by
  show tot f (n + 1) + f (n + 1) = f 0 + (tot (fun k => f (k + 1)) n + f (n + 1))
  rw [tot_succ f n]
  omega
end
theorem md_id (a : Int) : (a % Sm.L - 1 * a) % Sm.L = 0 := by
 rw [Int.one_mul]
 exact md_to (Int.emod_emod_of_dvd a (Int.dvd_refl _))
theorem md_ng (a : Int) : (-(a % Sm.L) - -1 * a) % Sm.L = 0 := by
 have := md_id a
 rw [show -(a % Sm.L) - -1 * a = -(a % Sm.L - 1 * a) by omega]
 exact Int.emod_eq_zero_of_dvd (Int.dvd_neg.2 (Int.dvd_of_emod_eq_zero this))
theorem glN_at (X : List Tm) : glN X.length (ft X) = X.map fun x => (x.1, -(x.2 % Sm.L)) := by
 apply List.ext_getElem
 ·simp [glN]
 ·intro i h1 h2
  have hi : i < X.length := by simpa [glN] using h1
  simp only [glN, List.getElem_map, List.getElem_range]
  rw [show (ft X i) = tmOf X[i] by unfold ft; rw [List.getD_eq_getElem?_getD, List.getElem?_eq_getElem hi]; rfl]
  simp [tmOf, lst_n]
theorem vl_glL (g : Wr → Int) (X : List Tm) : (vl g (glL X.length (ft X)) - vl g X) % Sm.L = 0 := by
 rw [glft_atZ]
 have := vl_mapM (g := g) X (fun a => a % Sm.L) 1 md_id
 rwa [Int.one_mul] at this
theorem vl_glN (g : Wr → Int) (X : List Tm) : (vl g (glN X.length (ft X)) - -vl g X) % Sm.L = 0 := by
 rw [glN_at]
 have := vl_mapM (g := g) X (fun a => -(a % Sm.L)) (-1) md_ng
 rwa [show -1 * vl g X = -vl g X by omega] at this
theorem tot_vl (N : Nat → Sl) : ∀ X : List Tm, (tot (fun k => (ft X k).a.n * (nw N (ft X k).q).n) X.length - vl (fun q => (nw N q).n) X) % Sm.L = 0
 | [] => by show ((0 : Int) - 0) % Sm.L = 0; rfl
 | x :: X => by
  rw [List.length_cons, tot_succ]
  have ih := tot_vl N X
  have e0 : (ft (x :: X) 0).a.n * (nw N (ft (x :: X) 0).q).n = x.2 % Sm.L * (nw N x.1).n := by
   show (lst x.2).n * _ = _
   rw [lst_n]
   rfl
  have h1 := md_mul (L := Sm.L) x.2 (nw N x.1).n
  rw [e0]
  exact md_add h1 ih
def gv (G : Nat → List E4) (q : Wr) : Int := (nw (nmR (rG G)) q).n
theorem es_vl (G : Nat → List E4) (X : List Tm) : es (nmR (rG G)) (ft X) X.length = lst (vl (gv G) X) := by
 rw [es_is]
 exact lst_congr (md_of (tot_vl _ X))
theorem ft_rG {G : Nat → List E4} {m K : Nat} (h : ∀ j, j < 3 → (G j).length = K) (h3 : (G 3).length = m) : ftB (nmR (rG G)) m K = true := by
 rw [ftB_iff]
 intro k hk
 match k, hk with
 | 0, _ => rfl
 | 1, _ => rfl
 | 2, _ => exact h 0 (by omega)
 | 3, _ => exact h 1 (by omega)
 | 4, _ => exact h 2 (by omega)
 | 5, _ => exact h3
theorem nuE_vl {G : Nat → List E4} {m K : Nat} (h : ∀ j, j < 3 → (G j).length = K) (h3 : (G 3).length = m) {X : List Tm} (hX : ∀ z ∈ X, hs m K z.1 = true) : nuE G m K X = lst (vl (gv G) X) := by
 unfold nuE evS
 rw [if_pos (ft_rG h h3), if_pos (nm_true hX), es_vl]
theorem getD_upE {l : List E4} {z u : E4} {i : Nat} (h : i < l.length) : (l ++ [z]).getD i u = l.getD i u := by
 rw [List.getD_eq_getElem?_getD, List.getD_eq_getElem?_getD, List.getElem?_append_left h]
theorem getD_lastE {l : List E4} {z u : E4} : (l ++ [z]).getD l.length u = z := by
 rw [List.getD_eq_getElem?_getD, List.getElem?_append_right (Nat.le_refl _)]
 simp
theorem gv_up {G : Nat → List E4} {m K : Nat} (h : ∀ j, j < 3 → (G j).length = K) (l r : E4) {q : Wr} (hq : hs m K q = true) : gv (upG G l r) q = gv G q := by
 unfold hs at hq
 simp only [Bool.and_eq_true, decide_eq_true_eq] at hq
 obtain ⟨h1, h2, h3, h4⟩ := hq
 obtain ⟨k, i⟩ := q
 simp only at h1 h2 h3 h4
 unfold gv nw
 simp only
 have hk : k = 1 ∨ k = 2 ∨ k = 3 ∨ k = 4 ∨ k = 5 := by omega
 rcases hk with rfl | rfl | rfl | rfl | rfl
 ·rfl
 ·have e : i.toNat < (G 0).length := by rw [h 0 (by omega)]; have h5 : i < (K : Int) := h4; omega
  show ((G 0 ++ [l]).getD i.toNat _).n = ((G 0).getD i.toNat _).n
  rw [getD_upE e]
 ·have e : i.toNat < (G 1).length := by rw [h 1 (by omega)]; have h5 : i < (K : Int) := h4; omega
  show ((G 1 ++ [r]).getD i.toNat _).n = ((G 1).getD i.toNat _).n
  rw [getD_upE e]
 ·have e : i.toNat < (G 2).length := by rw [h 2 (by omega)]; have h5 : i < (K : Int) := h4; omega
  show ((G 2 ++ [_]).getD i.toNat _).n = ((G 2).getD i.toNat _).n
  rw [getD_upE e]
 ·rfl
theorem gv_2 {G : Nat → List E4} {K : Nat} (h : ∀ j, j < 3 → (G j).length = K) (l r : E4) : gv (upG G l r) (2, (K : Int)) = l.n ∧ gv (upG G l r) (3, (K : Int)) = r.n ∧ gv (upG G l r) (4, (K : Int)) = (lst (l.n * r.n)).n := by
 refine ⟨?_, ?_, ?_⟩
 ·show ((G 0 ++ [l]).getD (K : Int).toNat _).n = _
  rw [Int.toNat_natCast, ← h 0 (by omega), getD_lastE]
 ·show ((G 1 ++ [r]).getD (K : Int).toNat _).n = _
  rw [Int.toNat_natCast, ← h 1 (by omega), getD_lastE]
 ·show ((G 2 ++ [_]).getD (K : Int).toNat _).n = _
  rw [Int.toNat_natCast, ← h 2 (by omega), getD_lastE]
structure Gd (m : Nat) (p : Pz) : Prop where
 ln : ∀ j, j < 3 → (p.G j).length = p.K
 l3 : (p.G 3).length = m
 mu : ∀ k, k < p.K → ((p.G 0).getD k ⟨0, 0, 0, 0⟩).n * ((p.G 1).getD k ⟨0, 0, 0, 0⟩).n % Sm.L = ((p.G 2).getD k ⟨0, 0, 0, 0⟩).n % Sm.L
 wr : ∀ X ∈ p.Q, ∀ x ∈ X, hs m p.K x.1 = true
 zs : ∀ X ∈ p.Q, vl (gv p.G) X % Sm.L = 0
theorem vl_mul (g : Wr → Int) (k K : Int) (X : List Tm) : (vl g (lf Sm.L (glL 1 (cst (k, K)) ++ glN X.length (ft X))) - (g (k, K) - vl g X)) % Sm.L = 0 := by
 refine md_to (Eq.trans (lf_vl _) (md_of ?_))
 rw [vl_app]
 have h1 : vl g (glL 1 (cst (k, K))) = (lst 1).n * g (k, K) := by
  show (lst 1).n * g (k, K) + 0 = _
  omega
 have e1 : (lst 1).n = 1 := by rw [one_is]; rfl
 rw [h1, e1, Int.one_mul]
 have h2 := md_add (show (g (k, K) - g (k, K)) % Sm.L = 0 by rw [Int.sub_self]; rfl) (vl_glN g X)
 rwa [show g (k, K) - vl g X = g (k, K) + -vl g X by omega]
theorem Gd.mul {m : Nat} {p : Pz} (h : Gd m p) {X Y : List Tm} (hX : ∀ z ∈ X, hs m p.K z.1 = true) (hY : ∀ z ∈ Y, hs m p.K z.1 = true) : Gd m (pMul m p X Y) ∧ (vl (gv (pMul m p X Y).G) [((4, (p.K : Int)), 1)] - vl (gv p.G) X * vl (gv p.G) Y) % Sm.L = 0 := by
 have nX := nuE_vl h.ln h.l3 hX
 have nY := nuE_vl h.ln h.l3 hY
 obtain ⟨ul, ul3⟩ := upG_len (l := nuE p.G m p.K X) (r := nuE p.G m p.K Y) h.ln h.l3
 obtain ⟨g2, g3, g4⟩ := gv_2 h.ln (nuE p.G m p.K X) (nuE p.G m p.K Y)
 have old : ∀ Z : List Tm, (∀ z ∈ Z, hs m p.K z.1 = true) → vl (gv (upG p.G (nuE p.G m p.K X) (nuE p.G m p.K Y))) Z = vl (gv p.G) Z := fun Z hZ => vl_congr (fun z hz => gv_up h.ln _ _ (hZ z hz))
 have pX : ((nuE p.G m p.K X).n - vl (gv p.G) X) % Sm.L = 0 := by rw [nX, lst_n]; exact md_to (Int.emod_emod_of_dvd _ (Int.dvd_refl _))
 have pY : ((nuE p.G m p.K Y).n - vl (gv p.G) Y) % Sm.L = 0 := by rw [nY, lst_n]; exact md_to (Int.emod_emod_of_dvd _ (Int.dvd_refl _))
 refine ⟨⟨ul, ul3, fun k hk => ?_, fun Z hZ => ?_, fun Z hZ => ?_⟩, ?_⟩
 ·show ((p.G 0 ++ [_]).getD k _).n * ((p.G 1 ++ [_]).getD k _).n % Sm.L = ((p.G 2 ++ [_]).getD k _).n % Sm.L
  have hk1 : k < p.K + 1 := hk
  have l0 := h.ln 0 (by omega)
  have l1 := h.ln 1 (by omega)
  have l2 := h.ln 2 (by omega)
  by_cases e : k < p.K
  ·rw [getD_upE (by omega), getD_upE (by omega), getD_upE (by omega)]
   exact h.mu k e
  ·obtain rfl : k = p.K := by omega
   have e0 : ((p.G 0 ++ [nuE p.G m p.K X]).getD p.K ⟨0, 0, 0, 0⟩) = nuE p.G m p.K X := by
    have := getD_lastE (l := p.G 0) (z := nuE p.G m p.K X) (u := ⟨0, 0, 0, 0⟩)
    rwa [l0] at this
   have e1 : ((p.G 1 ++ [nuE p.G m p.K Y]).getD p.K ⟨0, 0, 0, 0⟩) = nuE p.G m p.K Y := by
    have := getD_lastE (l := p.G 1) (z := nuE p.G m p.K Y) (u := ⟨0, 0, 0, 0⟩)
    rwa [l1] at this
   have e2 : ((p.G 2 ++ [lst ((nuE p.G m p.K X).n * (nuE p.G m p.K Y).n)]).getD p.K ⟨0, 0, 0, 0⟩) = lst ((nuE p.G m p.K X).n * (nuE p.G m p.K Y).n) := by
    have := getD_lastE (l := p.G 2) (z := lst ((nuE p.G m p.K X).n * (nuE p.G m p.K Y).n)) (u := ⟨0, 0, 0, 0⟩)
    rwa [l2] at this
   rw [e0, e1, e2, lst_n, Int.emod_emod_of_dvd _ (Int.dvd_refl _)]
 ·rcases List.mem_append.1 hZ with e | e
  ·exact fun z hz => hs_mono (h.wr Z e z hz) (by show p.K ≤ p.K + 1; omega)
  ·rcases List.mem_cons.1 e with rfl | e
   ·exact hs_mul 2 (by omega) (by omega) hX
   ·rw [List.mem_singleton.1 e]
    exact hs_mul 3 (by omega) (by omega) hY
 ·show vl (gv (upG p.G _ _)) Z % Sm.L = 0
  rcases List.mem_append.1 hZ with e | e
  ·rw [old Z (h.wr Z e)]
   exact h.zs Z e
  ·rcases List.mem_cons.1 e with rfl | e
   ·have := vl_mul (gv (upG p.G (nuE p.G m p.K X) (nuE p.G m p.K Y))) 2 (p.K : Int) X
    rw [g2, old X hX] at this
    have h2 := md_add this pX
    rwa [show ∀ a b c : Int, a + b - (b - c + c) = a by intro a b c; omega] at h2
   ·rw [List.mem_singleton.1 e]
    have := vl_mul (gv (upG p.G (nuE p.G m p.K X) (nuE p.G m p.K Y))) 3 (p.K : Int) Y
    rw [g3, old Y hY] at this
    have h2 := md_add this pY
    rwa [show ∀ a b c : Int, a + b - (b - c + c) = a by intro a b c; omega] at h2
 ·show (1 * gv (upG p.G _ _) (4, (p.K : Int)) + 0 - _) % Sm.L = 0
  rw [g4, nX, nY, lst_n, lst_n, lst_n, Int.one_mul, Int.add_zero]
  refine md_to ?_
  rw [Int.emod_emod_of_dvd _ (Int.dvd_refl _), ← Int.mul_emod]
theorem Gd.ho {m : Nat} {p : Pz} (h : Gd m p) (X : List Tm) : hoE (rG (pReq p X).G 0) (rG (pReq p X).G 1) (rG (pReq p X).G 2) (rG (pReq p X).G 3) m (pReq p X).K (pReq p X).Q = if vl (gv p.G) X % Sm.L = 0 then 0 else 203 := by
 have hf := ft_rG h.ln h.l3
 have hm : mlB (rG p.G 0) (rG p.G 1) (rG p.G 2) = true := by
  rw [mlB_iff]
  intro k hk
  exact h.mu k (by have : k < (p.G 0).length := hk; rw [h.ln 0 (by omega)] at this; exact this)
 have hz : zsB (nmR (rG p.G)) (p.Q ++ [X]) = decide (vl (gv p.G) X % Sm.L = 0) := by
  have e : ∀ Z : List Tm, (es (nmR (rG p.G)) (ft Z) Z.length).n % Sm.L = vl (gv p.G) Z % Sm.L := fun Z => by rw [es_vl, lst_n, Int.emod_emod_of_dvd _ (Int.dvd_refl _)]
  unfold zsB
  rw [List.all_append]
  have a1 : (p.Q.all fun Z => decide ((es (nmR (rG p.G)) (ft Z) Z.length).n % Sm.L = 0)) = true := by
   rw [List.all_eq_true]
   intro Z hZ
   rw [e]
   exact decide_eq_true (h.zs Z hZ)
  rw [a1]
  simp [e]
 unfold nmR at hf hz
 show hoE (rG p.G 0) (rG p.G 1) (rG p.G 2) (rG p.G 3) m p.K (p.Q ++ [X]) = _
 unfold hoE
 rw [if_pos hf, if_pos hm, hz]
 by_cases hc : vl (gv p.G) X % Sm.L = 0
 ·simp [hc]
 ·simp [hc]
end Ci
end Go.Proofs.YtljmgfclhbadjaaGreatDoor
namespace Go.Proofs.YtljmgfclhbadjaaGreatDoor
open Go.RowKit
set_option linter.unusedVariables false
set_option linter.unusedSimpArgs false
open Cm (Wr Tm co bf Ls lf ins Eqm)
namespace Ci
set_option maxRecDepth 100000
set_option maxHeartbeats 16000000
def adX (X Y : List Tm) : List Tm := lf Sm.L (glL X.length (ft X) ++ glL Y.length (ft Y))
theorem adX_len (X Y : List Tm) : (adX X Y).length ≤ X.length + Y.length := by
 have := lf_len_le (glL X.length (ft X) ++ glL Y.length (ft Y))
 simpa [adX, glL] using this
theorem hs_ad {m K : Nat} {X Y : List Tm} (hX : ∀ z ∈ X, hs m K z.1 = true) (hY : ∀ z ∈ Y, hs m K z.1 = true) : ∀ z ∈ adX X Y, hs m K z.1 = true := fun z hz => by
 obtain ⟨y, hy, e⟩ := lf_mem hz
 rw [e]
 rcases List.mem_append.1 hy with h | h
 ·exact hs_glL hX y h
 ·exact hs_glL hY y h
theorem addR {x : World} {u v : Value} {X Y : List Tm} (hT : Tb x) (hu : Zr x u X) (hv : Zr x v Y) : Calls Tryz.prog 155 #[u, v] x fun e w' => LvP (adX X Y) x e w' := by
 obtain ⟨P, c, rfl, l1⟩ := hu.sh
 obtain ⟨P2, c2, rfl, l2⟩ := hv.sh
 have n1 := hu.n
 have n2 := hv.n
 exact Add_lin P P2 X.length c Y.length c2 (ft X) (ft Y) x hT (by omega) (fun k hk => lst_ok _) (fun k hk => lst_ok _) l1 l2
structure Zq9 (S : Nat → Prop) (x : World) (b o n : Nat) (V : Nat → Value) (X : Nat → List Tm) : Prop where
 nb : ¬ S b
 lt : b < x.heap.size
 el : ∀ j, j < n → x.cell? ⟨b, o + j, none⟩ = some (V j) ∧ Zo S x (V j) (X j)
section
variable {S S' : Nat → Prop} {d m q b lb o n c : Nat} {p : Pz} {x y : World} {V : Nat → Value} {X : Nat → List Tm}
theorem Zq9.keep (h : Zq9 S x lb o n V X) (hb : Below x.heap.size x y) : Zq9 S y lb o n V X := ⟨h.nb, Nat.lt_of_lt_of_le h.lt hb.size, fun j hj => ⟨cell_keep (h.el j hj).1 hb, (h.el j hj).2.keep hb⟩⟩
theorem Zq9.step (h : Zq9 S x lb o n V X) (hg : Gs S x y) (hk : Sk S S' x) : Zq9 S' y lb o n V X := ⟨out_sk h.nb hk h.lt, Nat.lt_of_lt_of_le h.lt hg.size, fun j hj => ⟨hg.cell (h.el j hj).1 h.nb, (h.el j hj).2.step hg hk⟩⟩
theorem Zm.at (h : Zm S x lb n V X) (o k : Nat) (hk : o + k ≤ n) : Zq9 S x lb o k (fun j => V (o + j)) (fun j => X (o + j)) := ⟨h.nb, h.lt, fun j hj => h.el (o + j) (by omega)⟩
def cuX (p : Pz) (T : Nat → List Tm) : Nat → List Tm
 | 0 => T 0
 | i + 1 => [((4, ((p.K + i : Nat) : Int)), 1)]
def pPr (m : Nat) (p : Pz) (T : Nat → List Tm) : Nat → Pz
 | 0 => p
 | i + 1 => pMul m (pPr m p T i) (cuX p T i) (T (i + 1))
theorem pPr_K (m : Nat) (p : Pz) (T : Nat → List Tm) (i : Nat) : (pPr m p T i).K = p.K + i := by
 induction i with
 | zero => rfl
 | succ i ih => show (pPr m p T i).K + 1 = _; omega
theorem pPr_Q (m : Nat) (p : Pz) (T : Nat → List Tm) (i : Nat) : (pPr m p T i).Q.length = p.Q.length + 2 * i := by
 induction i with
 | zero => rfl
 | succ i ih => show ((pPr m p T i).Q ++ [_, _]).length = _; rw [List.length_append, ih]; simp; omega
theorem cuX_hs {p : Pz} {T : Nat → List Tm} (hT : ∀ z ∈ T 0, hs m p.K z.1 = true) (i : Nat) : ∀ z ∈ cuX p T i, hs m (p.K + i) z.1 = true := by
 cases i with
 | zero => exact hT
 | succ i => exact hs_out
theorem dprodN_any (h : Ds S d m p q b x) (hL : Zq9 S x lb o n V X) (hn : 1 ≤ n) (hn2 : n ≤ 100) (c : Nat) (hc : n ≤ c) {u : Value} {C : List Tm} (hu : Zo S x u C) (hC : ∀ z ∈ C, hs m p.K z.1 = true) (hf : ∀ j, j < n → ∀ z ∈ X j, hs m p.K z.1 = true) (hl : ∀ j, j < n → C.length + (X j).length ≤ 100000) (hq : p.Q.length + 2 * n ≤ 4096) (hK : p.K + n ≤ 1024) :
  Calls Tryz.prog 145 #[.pointer (some ⟨d, 0, none⟩), .func (.func 155) #[u] #[], .slice (some ⟨lb, o, none⟩) n c] x fun e w' => LoP S d m (pPr m p (fun j => adX C (X j)) (n - 1)) q b (cuX p (fun j => adX C (X j)) (n - 1)) x e w' := by
 have HD := Hn h
 have HL := Hn hL
 have HU := Hn hu
 have HF := Hn (And.intro hC (And.intro hf hl))
 have HN := Hn (And.intro hn (And.intro hn2 (And.intro hq (And.intro hK hc))))
 have x0 := (hL.el 0 hn).1
 have L0 := Hn (addR h.tb hu.1.r (hL.el 0 hn).2.1.r)
 obtain ⟨Pu, cu, rfl, -⟩ := hu.1.sh
 have n0 : ¬ (n : Int) = 0 := by omega
 have n1 : (0 : Int) < (n : Int) := by omega
 have nc : ((n - 1 : Nat) : Int) = (n : Int) - 1 := by omega
 clear h hL hu hC hf hl hn hn2 hq hK hc
 simp only [Nat.add_zero] at x0
 go_enter Tryz.func145, Tryz.ntmps145
 go_upto_region 4 with (go_at_call 155; refine L0.out.mono ?_; rintro e w1 ⟨v1, rfl, hl⟩; have Q1 := Hn hl; clear hl L0)
 have m1 : (1 : Int) ≤ (n : Int) := by have := HN.out.1; omega
 have m2 : (n : Int) ≤ (c : Int) := by have := HN.out.2.2.2.2; omega
 have m3 : ¬ (n : Int) < 1 := by omega
 have m4 : ¬ (c : Int) < (n : Int) := by omega
 have Z1 := Hn (Zo.new Q1.out HD.out.lt (by have := adX_len C (X 0); have := HF.out.2.2 0 HN.out.1; omega) : Zo S w1 v1 (adX C (X 0)))
 have D1 := Hn (HD.out.keep Q1.out.2.1)
 have B1 := Hn Q1.out.2.1
 have A0 : Hid (LoP S d m (pPr m p (fun j => adX C (X j)) 0) q b (cuX p (fun j => adX C (X j)) 0) x (.returned v1) w1) := Hn ⟨S, v1, rfl, D1.out, Gs.bl B1.out, Sk.refl, Z1.out⟩
 clear Q1 x0 Z1 D1 B1
 go_upto_region 5 with fail
 all_goals (
  go_loopw [22, 7] (fun iv v w' => ∃ i : Nat, i ≤ n - 1 ∧ iv = .int .i64 (i : Int) ∧ Hid (LoP S d m (pPr m p (fun j => adX C (X j)) i) q b (cuX p (fun j => adX C (X j)) i) x (.returned v) w')) (fun i _ _ => n - 1 - (intOf i).toNat)
  case atStart => exact ⟨0, by omega, rfl, A0⟩
  case round =>
   clear A0
   obtain ⟨i, hi, rfl, hE⟩ := hrel
   by_cases hin : i < n - 1
   ·have i1 : (i : Int) < (n : Int) - 1 := by omega
    have i0 : (0 : Int) ≤ (i : Int) := by omega
    have w9 : IntKind.i64.wrap ((i : Int) + 1) = (i : Int) + 1 := IntWalk.i64_in _ (by have := HN.out.2.1; omega)
    obtain ⟨S1, v2, e2, d1, g1, k1, z1⟩ := hE.out
    obtain rfl := (Ending.returned.inj e2)
    have D1 := Hn d1
    have G1 := Hn (And.intro g1 k1)
    have Z1 := Hn z1
    have L1 := Hn (HL.out.step g1 k1)
    have U1 := Hn (HU.out.step g1 k1)
    clear d1 g1 k1 z1 e2 hE
    have x0 := (L1.out.el (i + 1) (by omega)).1
    rw [show o + (i + 1) = o + 1 + i by omega] at x0
    have c5 := D1.out.h.c 5
    have CA := Hn (addR D1.out.tb U1.out.1.r (L1.out.el (i + 1) (by omega)).2.1.r)
    have LT : Hid ((adX C (X (i + 1))).length ≤ 100000) := Hn (by have := adX_len C (X (i + 1)); have := HF.out.2.2 (i + 1) (by omega); omega)
    go_wp2_with (first | (go_at_call 155; refine CA.out.mono ?_; rintro e w2 ⟨v3, rfl, hl⟩; have C2 := Hn (dmul_any (D1.out.keep hl.2.1) (Z1.out.keep hl.2.1) (Zo.new hl D1.out.lt LT.out) (by rw [pPr_K]; exact cuX_hs (hs_ad HF.out.1 (HF.out.2.1 0 (by omega))) i) (by rw [pPr_K]; exact fun z hz => hs_mono (hs_ad HF.out.1 (HF.out.2.1 (i + 1) (by omega)) z hz) (by omega)) (by rw [pPr_Q]; have := HN.out.2.2.1; omega) (by rw [pPr_K]; have := HN.out.2.2.2.1; omega)); have B2 := Hn hl.2.1; clear hl CA) | (go_at_call 211; refine C2.out.mono ?_; rintro e w3 ⟨S3, v4, rfl, d3, g3, k3, z3⟩; have FE : Hid (LoP S d m (pPr m p (fun j => adX C (X j)) (i + 1)) q b (cuX p (fun j => adX C (X j)) (i + 1)) x (.returned v4) w3) := Hn ⟨S3, v4, rfl, d3, (G1.out.1.trans (Gs.bl B2.out) G1.out.2).trans g3 G1.out.2, G1.out.2.trans (Sk.trans Sk.refl k3 B2.out.size) G1.out.1.size, by have hz9 := z3; rw [pPr_K] at hz9; exact hz9⟩; clear d3 g3 k3 z3 C2))
    all_goals (
     go_roundw
     case rel => exact ⟨i + 1, by omega, by go_num, FE⟩
     case measure => simp [intOf]; omega)
   ·obtain rfl : i = n - 1 := by omega
    have lq : ¬ ((n - 1 : Nat) : Int) < (n : Int) - 1 := by omega
    go_wp2_with fail
    all_goals (refine bodyPost_ret (v := _) (by simp [results, Tryz.results145, go_sem]) rfl hE.out))
end
end Ci
end Go.Proofs.YtljmgfclhbadjaaGreatDoor
