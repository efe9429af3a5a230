import Derived.Test.YthngomhhafoamaaGreatDoorCmn
set_option linter.unusedVariables false
set_option linter.unusedSimpArgs false
set_option maxRecDepth 100000
set_option maxHeartbeats 4000000
namespace Go.Proofs.YthngomhhafoamaaGreatDoor
open Go.RowKit
open Cm (Wr Tm co bf Ls lf ins Eqm)
namespace Ci
theorem glL_ft (X : List Tm) : glL X.length (ft X) = X.map fun x => (x.1, (lst x.2).n) := by
 refine List.ext_getElem? (fun i => ?_)
 simp only [glL, List.getElem?_map]
 by_cases h : i < X.length
 ·rw [List.getElem?_range h, List.getElem?_eq_getElem h]
  simp [ft, tmOf, List.getD_eq_getElem?_getD, h]
 ·rw [List.getElem?_eq_none (by simpa using h), List.getElem?_eq_none (by omega)]
  rfl
theorem glN_ft (X : List Tm) : glN X.length (ft X) = X.map fun x => (x.1, -(lst x.2).n) := by
 refine List.ext_getElem? (fun i => ?_)
 simp only [glN, List.getElem?_map]
 by_cases h : i < X.length
 ·rw [List.getElem?_range h, List.getElem?_eq_getElem h]
  simp [ft, tmOf, List.getD_eq_getElem?_getD, h]
 ·rw [List.getElem?_eq_none (by simpa using h), List.getElem?_eq_none (by omega)]
  rfl
theorem foldl_mem {L : Int} : ∀ (Y X : List Tm) (z : Tm), z ∈ Y.foldl (ins L) X → (∃ x ∈ Y, z.1 = x.1) ∨ z ∈ X
 | [], X, z, h => .inr h
 | y :: Y, X, z, h => by
  rcases foldl_mem Y (ins L X y) z h with ⟨x, hx, e⟩ | h
  ·exact .inl ⟨x, by simp [hx], e⟩
  ·rcases Cm.ins_mem h with e | h
   ·exact .inl ⟨y, by simp, e⟩
   ·exact .inr h
theorem lf_mem {L : Int} {X : List Tm} {z : Tm} (h : z ∈ lf L X) : ∃ x ∈ X, z.1 = x.1 := by
 rcases foldl_mem X [] z h with h | h
 ·exact h
 ·simp at h
theorem nm_true {m Kg : Nat} {X : List Tm} (h : ∀ x ∈ X, hs m Kg x.1 = true) : nm m Kg X.length (ft X) = true := by
 unfold nm
 rw [an_false (fun k hk => ?_)]
 ·rfl
 ·have : (ft X k).q = X[k].1 := by simp [ft, tmOf, List.getD_eq_getElem?_getD, hk]
  rw [this, h _ (List.getElem_mem hk)]
  rfl
theorem nm_false {m Kg : Nat} {X : List Tm} {x : Tm} (hx : x ∈ X) (h : hs m Kg x.1 = false) : nm m Kg X.length (ft X) = false := by
 obtain ⟨k, hk, e⟩ := List.mem_iff_getElem.1 hx
 unfold nm
 rw [an_true (k := k) hk ?_]
 ·rfl
 ·have : (ft X k).q = X[k].1 := by simp [ft, tmOf, List.getD_eq_getElem?_getD, hk]
  show (!hs m Kg (ft X k).q) = true
  rw [this, e, h]
  rfl
def lw (c : Int) (n : Nat) : List Tm := (List.range n).map fun (i : Nat) => (((2 : Int), (i : Int)), c)
theorem lw_len (c : Int) (n : Nat) : (lw c n).length = n := by simp [lw]
theorem lw_succ (c : Int) (n : Nat) : lw c (n + 1) = lw c n ++ [((2, (n : Int)), c)] := by simp [lw, List.range_succ]
theorem lw_mem {c : Int} {n : Nat} {x : Tm} (h : x ∈ lw c n) : ∃ i : Nat, i < n ∧ x = ((2, (i : Int)), c) := by
 simp only [lw, List.mem_map, List.mem_range] at h
 obtain ⟨i, hi, rfl⟩ := h
 exact ⟨i, hi, rfl⟩
theorem lw_co (c : Int) (n : Nat) (q : Wr) : co (lw c n) q = if q.1 = 2 ∧ 0 ≤ q.2 ∧ q.2 < n then c else 0 := by
 induction n with
 | zero =>
  rw [if_neg (by omega)]
  rfl
 | succ n ih =>
  rw [lw_succ, Cm.co_app, ih, Cm.co_cons, Cm.co_nil]
  obtain ⟨a, b⟩ := q
  simp only [Prod.mk.injEq]
  by_cases h1 : a = 2 ∧ 0 ≤ b ∧ b < (n : Int)
  ·rw [if_pos h1, if_neg (by omega), if_pos (by omega)]
   omega
  ·rw [if_neg h1]
   by_cases h2 : 2 = a ∧ (n : Int) = b
   ·rw [if_pos h2, if_pos (by omega)]
    omega
   ·rw [if_neg h2, if_neg (by omega)]
    omega
theorem lw_map (c d : Int) (n : Nat) (f : Int → Int) (h : f c = d) : (lw c n).map (fun x => (x.1, f x.2)) = lw d n := by
 simp [lw, h]
theorem lw_up (c : Int) (n : Nat) : (lw c n).Pairwise (fun x y => bf x.1 y.1 = true) := by
 unfold lw
 rw [List.pairwise_map]
 refine List.Pairwise.imp ?_ (List.pairwise_lt_range (n := n))
 intro i j hij
 rw [Cm.bf_iff]
 right
 exact ⟨rfl, by simpa using hij⟩
theorem L_gt : (7 : Int) < Sm.L := by decide
theorem lst3 : (lst 3).n = 3 := by rw [lst_n]; decide
theorem lst1 : (lst 1).n = 1 := by rw [lst_n]; decide
def lng (n : Nat) : List Tm := lw 3 n ++ lw 3 n
theorem around_any (n : Nat) (i : Int) (w : World) (hn : n = 17 ∨ n = 3) (h0 : -9223372036854775808 ≤ i) (h1 : i ≤ 9223372036854775807) : Calls Tryz.prog 24 #[.int .i64 (n : Int), .int .i64 i] w fun e w' => ∃ r : Nat, e = .returned (.int .i64 (r : Int)) ∧ r < n ∧ w' = w := by
 have hp : (0 : Int) < (n : Int) := by omega
 have t1 : -(n : Int) < i.tmod n := by have := Int.lt_tmod_of_pos i hp; omega
 have t2 : i.tmod n < n := Int.tmod_lt_of_pos i hp
 have n0 : ¬ n = 0 := by omega
 have hb : (n : Int) ≤ 17 := by omega
 clear hn
 obtain ⟨t, ht⟩ : ∃ t, i.tmod n = t := ⟨_, rfl⟩
 rw [ht] at t1 t2
 have t7 : IntKind.i64.wrap t = t := IntWalk.i64_in _ (by omega)
 have dv : ∀ x : World, (Op.intDiv .rem .i64 i (n : Int)).run Tryz.prog x = .ok (.int .i64 t) x := fun x => by simp [Op.intDiv, ht, t7, n0, go_sem]
 by_cases h : t < 0
 ·have w9 : IntKind.i64.wrap (t + (n : Int)) = t + (n : Int) := IntWalk.i64_in _ (by omega)
  go_enter Tryz.func24, Tryz.ntmps24
  go_wp2_with fail
  refine bodyPost_ret (v := .int .i64 (t + (n : Int))) (by simp [results, Tryz.results24, go_sem]) rfl ⟨(t + (n : Int)).toNat, by rw [Int.toNat_of_nonneg (by omega)], by omega, rfl⟩
 ·go_enter Tryz.func24, Tryz.ntmps24
  go_wp2_with fail
  refine bodyPost_ret (v := .int .i64 t) (by simp [results, Tryz.results24, go_sem]) rfl ⟨t.toNat, by rw [Int.toNat_of_nonneg (by omega)], by omega, rfl⟩
end Ci
end Go.Proofs.YthngomhhafoamaaGreatDoor
