import Derived.Test.YtaejdgpffipaeaaGreatDoorAz
namespace Go.Proofs.YtaejdgpffipaeaaGreatDoor
open Go.RowKit
set_option linter.unusedVariables false
set_option linter.unusedSimpArgs false
open Cm (Wr Tm co bf Ls lf ins Eqm)
namespace Ci
set_option maxRecDepth 100000
set_option maxHeartbeats 4000000
def vl (N : Nat → Sl) : List Tm → Int
 | [] => 0
 | x :: X => x.2 * (nw N x.1).n + vl N X
theorem vl_app (N : Nat → Sl) (X Y : List Tm) : vl N (X ++ Y) = vl N X + vl N Y := by
 induction X with
 | nil => simp [vl]
 | cons x X ih => simp only [List.cons_append, vl, ih]; omega
theorem vl_ins (N : Nat → Sl) (t : Tm) : ∀ X : List Tm, vl N (ins Sm.L X t) % Sm.L = (vl N X + t.2 * (nw N t.1).n) % Sm.L
 | [] => by
  unfold ins
  split
  ·rename_i h
   simp only [vl]
   rw [Int.zero_add, Int.mul_emod, h]
   simp
  ·simp only [vl]
   rw [Int.add_zero, Int.zero_add, Int.mul_emod, Int.emod_emod_of_dvd _ (Int.dvd_refl _), ← Int.mul_emod]
 | x :: X => by
  unfold ins
  have ih := vl_ins N t X
  split
  ·rename_i e
   split
   ·rename_i h
    simp only [vl]
    rw [e, show x.2 * (nw N t.1).n + vl N X + t.2 * (nw N t.1).n = vl N X + (x.2 + t.2) * (nw N t.1).n by rw [Int.add_mul]; omega, Int.add_emod, Int.mul_emod, h]
    simp
   ·simp only [vl]
    rw [e, Int.add_emod, Int.mul_emod, Int.emod_emod_of_dvd _ (Int.dvd_refl _), ← Int.mul_emod, ← Int.add_emod]
    congr 1
    rw [Int.add_mul]
    omega
  ·split
   ·split
    ·rename_i h
     simp only [vl]
     rw [Int.add_emod (x.2 * _ + _), Int.mul_emod t.2, h]
     simp
    ·simp only [vl]
     rw [Int.add_emod, Int.mul_emod (t.2 % Sm.L), Int.emod_emod_of_dvd _ (Int.dvd_refl _), ← Int.mul_emod, ← Int.add_emod]
     congr 1
     omega
   ·simp only [vl]
    rw [Int.add_emod, ih, ← Int.add_emod]
    congr 1
    omega
theorem vl_lf (N : Nat → Sl) (Y : List Tm) : vl N (lf Sm.L Y) % Sm.L = vl N Y % Sm.L := by
 have h : ∀ (Y X : List Tm), vl N (Y.foldl (ins Sm.L) X) % Sm.L = (vl N X + vl N Y) % Sm.L := by
  intro Y
  induction Y with
  | nil => intro X; simp [vl]
  | cons y Y ih =>
   intro X
   rw [List.foldl_cons, ih, Int.add_emod, vl_ins, ← Int.add_emod]
   simp only [vl]
   congr 1
   omega
 have := h Y []
 simpa [lf, vl] using this
theorem vl_neg (N : Nat → Sl) (n : Nat) (f : Nat → Trm) : vl N (glN n f) = -vl N (glL n f) := by
 induction n with
 | zero => rfl
 | succ n ih =>
  rw [glN_succ, glL_succ, vl_app, vl_app, ih]
  simp only [vl]
  rw [Int.neg_mul]
  omega
theorem glft_at (X : List Tm) : glL X.length (ft X) = X.map fun x => (x.1, x.2 % Sm.L) := by
 apply List.ext_getElem
 ·simp [glL]
 ·intro i h1 h2
  have hi : i < X.length := by simpa [glL] using h1
  simp only [glL, List.getElem_map, List.getElem_range]
  rw [ft_get hi]
  simp [tmOf, lst_n]
theorem glft_ls {X : List Tm} (h : Ls Sm.L X) : glL X.length (ft X) = X := by
 rw [glft_at]
 apply List.ext_getElem
 ·simp
 ·intro i h1 h2
  simp only [List.getElem_map]
  have := h.nz X[i] (List.getElem_mem h2)
  exact Prod.ext rfl (Int.emod_eq_of_lt (by omega) this.2)
theorem tot_vl (N : Nat → Sl) (n : Nat) (f : Nat → Trm) : tot (fun k => (f k).a.n * (nw N (f k).q).n) n = vl N (glL n f) := by
 induction n with
 | zero => rfl
 | succ n ih =>
  rw [glL_succ, vl_app, ← ih]
  simp [tot, vl]
theorem es_vl (N : Nat → Sl) {X : List Tm} (h : Ls Sm.L X) : es N (ft X) X.length = lst (vl N X) := by
 rw [es_is, tot_vl, glft_ls h]
theorem nm_iff {m K : Nat} {Y : List Tm} : nm m K (lf Sm.L Y).length (ft (lf Sm.L Y)) = true ↔ ∀ q, co Y q % Sm.L ≠ 0 → hs m K q = true := by
 constructor
 ·intro h q hq
  obtain ⟨y, hy, e⟩ := wire_lf hq
  rw [← e]
  exact nm_mem h y hy
 ·intro h
  exact nm_true (fun x hx => h x.1 (lf_wire hx))
theorem emod_add_zero {a b : Int} (h1 : a % Sm.L = 0) (h2 : b % Sm.L = 0) : (a + b) % Sm.L = 0 := by rw [Int.add_emod, h1, h2]; rfl
theorem co_mul (k : E4) (n : Nat) (f : Nat → Trm) (q : Wr) : co (glM k n f) q = k.n * co (glL n f) q := by
 induction n with
 | zero => simp [glM, glL, Cm.co_nil]
 | succ n ih =>
  rw [glM_succ, glL_succ, Cm.co_app, Cm.co_app, ih, Int.mul_add]
  simp only [Cm.co_cons, Cm.co_nil]
  split <;> simp
end Ci
end Go.Proofs.YtaejdgpffipaeaaGreatDoor
