import Derived.Test.YtnbhkhhghhfjoaaDoorCmn
namespace Go.Proofs.YtnbhkhhghhfjoaaDoor
open Go.RowKit
set_option linter.unusedVariables false
set_option linter.unusedSimpArgs false
open Cm (Wr Tm co bf Ls lf ins Eqm)
namespace Ci
set_option maxRecDepth 100000
set_option maxHeartbeats 4000000
theorem glL_ft (X : List Tm) : glL X.length (ft X) = X.map fun x => (x.1, (lst x.2).n) := by
  refine List.ext_getElem? (fun i => ?_)
  simp only [glL, List.getElem?_map]
  by_cases h : i < X.length
  · rw [List.getElem?_range h, List.getElem?_eq_getElem h]
    simp [ft, tmOf, List.getD_eq_getElem?_getD, h]
  · rw [List.getElem?_eq_none (by simpa using h), List.getElem?_eq_none (by omega)]
    rfl
theorem glN_ft (X : List Tm) : glN X.length (ft X) = X.map fun x => (x.1, -(lst x.2).n) := by
  refine List.ext_getElem? (fun i => ?_)
  simp only [glN, List.getElem?_map]
  by_cases h : i < X.length
  · rw [List.getElem?_range h, List.getElem?_eq_getElem h]
    simp [ft, tmOf, List.getD_eq_getElem?_getD, h]
  · rw [List.getElem?_eq_none (by simpa using h), List.getElem?_eq_none (by omega)]
    rfl
theorem foldl_mem {L : Int} : ∀ (Y X : List Tm) (z : Tm), z ∈ Y.foldl (ins L) X → (∃ x ∈ Y, z.1 = x.1) ∨ z ∈ X
  | [], X, z, h => .inr h
  | y :: Y, X, z, h => by
    rcases foldl_mem Y (ins L X y) z h with ⟨x, hx, e⟩ | h
    · exact .inl ⟨x, by simp [hx], e⟩
    · rcases Cm.ins_mem h with e | h
      · exact .inl ⟨y, by simp, e⟩
      · exact .inr h
theorem lf_mem {L : Int} {X : List Tm} {z : Tm} (h : z ∈ lf L X) : ∃ x ∈ X, z.1 = x.1 := by
  rcases foldl_mem X [] z h with h | h
  · exact h
  · simp at h
theorem nm_true {m Kg : Nat} {X : List Tm} (h : ∀ x ∈ X, hs m Kg x.1 = true) : nm m Kg X.length (ft X) = true := by
  unfold nm
  rw [an_false (fun k hk => ?_)]
  · rfl
  · have : (ft X k).q = X[k].1 := by simp [ft, tmOf, List.getD_eq_getElem?_getD, hk]
    rw [this, h _ (List.getElem_mem hk)]
    rfl
theorem nm_false {m Kg : Nat} {X : List Tm} {x : Tm} (hx : x ∈ X) (h : hs m Kg x.1 = false) : nm m Kg X.length (ft X) = false := by
  obtain ⟨k, hk, e⟩ := List.mem_iff_getElem.1 hx
  unfold nm
  rw [an_true (k := k) hk ?_]
  · rfl
  · have : (ft X k).q = X[k].1 := by simp [ft, tmOf, List.getD_eq_getElem?_getD, hk]
    show (!hs m Kg (ft X k).q) = true
    rw [this, e, h]
    rfl
theorem nm_lf {m Kg : Nat} {Y : List Tm} (h : ∀ x ∈ Y, hs m Kg x.1 = true) : nm m Kg (lf Sm.L Y).length (ft (lf Sm.L Y)) = true :=
  nm_true (fun x hx => by obtain ⟨y, hy, e⟩ := lf_mem hx; rw [e]; exact h y hy)
/-- the sum of n left wires, each c times -/
def lw (c : Int) (n : Nat) : List Tm := (List.range n).map fun (i : Nat) => (((2 : Int), (i : Int)), c)
theorem lw_len (c : Int) (n : Nat) : (lw c n).length = n := by simp [lw]
theorem lw_succ (c : Int) (n : Nat) : lw c (n + 1) = lw c n ++ [((2, (n : Int)), c)] := by simp [lw, List.range_succ]
theorem lw_mem {c : Int} {n : Nat} {x : Tm} (h : x ∈ lw c n) : ∃ i : Nat, i < n ∧ x = ((2, (i : Int)), c) := by
  simp only [lw, List.mem_map, List.mem_range] at h
  obtain ⟨i, hi, rfl⟩ := h
  exact ⟨i, hi, rfl⟩
theorem lw_co (c : Int) (n : Nat) (q : Wr) : co (lw c n) q = if q.1 = 2 ∧ 0 ≤ q.2 ∧ q.2 < n then c else 0 := by
  induction n with
  | zero =>
    rw [if_neg (by omega)]
    rfl
  | succ n ih =>
    rw [lw_succ, Cm.co_app, ih, Cm.co_cons, Cm.co_nil]
    obtain ⟨a, b⟩ := q
    simp only [Prod.mk.injEq]
    by_cases h1 : a = 2 ∧ 0 ≤ b ∧ b < (n : Int)
    · rw [if_pos h1, if_neg (by omega), if_pos (by omega)]
      omega
    · rw [if_neg h1]
      by_cases h2 : 2 = a ∧ (n : Int) = b
      · rw [if_pos h2, if_pos (by omega)]
        omega
      · rw [if_neg h2, if_neg (by omega)]
        omega
theorem lw_map (c d : Int) (n : Nat) (f : Int → Int) (h : f c = d) : (lw c n).map (fun x => (x.1, f x.2)) = lw d n := by
  simp [lw, h]
theorem lw_up (c : Int) (n : Nat) : (lw c n).Pairwise (fun x y => bf x.1 y.1 = true) := by
  unfold lw
  rw [List.pairwise_map]
  refine List.Pairwise.imp ?_ (List.pairwise_lt_range (n := n))
  intro i j hij
  rw [Cm.bf_iff]
  right
  exact ⟨rfl, by simpa using hij⟩
theorem L_gt : (7 : Int) < Sm.L := by decide
theorem lst3 : (lst 3).n = 3 := by rw [lst_n]; decide
theorem lst1 : (lst 1).n = 1 := by rw [lst_n]; decide
/-- the long sum -/
def lng (n : Nat) : List Tm := lw 3 n ++ lw 3 n
theorem lng_len (n : Nat) : (lng n).length = n + n := by simp [lng, lw_len]
theorem lng_wires (m n : Nat) (hn : n ≤ 1024) : ∀ x ∈ glL (lng n).length (ft (lng n)), hs m n x.1 = true := by
  rw [glL_ft]
  intro x hx
  obtain ⟨y, hy, rfl⟩ := List.mem_map.1 hx
  have : ∃ i : Nat, i < n ∧ y = ((2, (i : Int)), 3) := by
    unfold lng at hy
    rcases List.mem_append.1 hy with h | h <;> exact lw_mem h
  obtain ⟨i, hi, rfl⟩ := this
  unfold hs ct
  simp
  omega
/-- the product's first requirement has all left wires -/
theorem req_len : (lf Sm.L (glL 1 (cst (2, ((1023 : Nat) : Int))) ++ glN (lng 1023).length (ft (lng 1023)))).length = 1024 := by
  have hY : Ls Sm.L (lw (Sm.L - 6) 1023 ++ [((2, ((1023 : Nat) : Int)), 1)]) := by
    refine ⟨List.pairwise_append.2 ⟨lw_up _ _, by simp, fun x hx y hy => ?_⟩, fun x hx => ?_⟩
    · obtain ⟨i, hi, rfl⟩ := lw_mem hx
      rw [List.mem_singleton.1 hy, Cm.bf_iff]
      right
      exact ⟨rfl, by show (i : Int) < ((1023 : Nat) : Int); omega⟩
    · have := L_gt
      rcases List.mem_append.1 hx with h | h
      · obtain ⟨i, hi, rfl⟩ := lw_mem h
        show 0 < Sm.L - 6 ∧ Sm.L - 6 < Sm.L
        omega
      · rw [List.mem_singleton.1 h]
        show (0 : Int) < 1 ∧ (1 : Int) < Sm.L
        omega
  have hE : Eqm Sm.L (lw (Sm.L - 6) 1023 ++ [((2, ((1023 : Nat) : Int)), 1)]) (glL 1 (cst (2, ((1023 : Nat) : Int))) ++ glN (lng 1023).length (ft (lng 1023))) := by
    intro q
    have e1 : glL 1 (cst (2, ((1023 : Nat) : Int))) = [((2, ((1023 : Nat) : Int)), 1)] := by
      simp [glL, cst, lst1]
    have e2 : glN (lng 1023).length (ft (lng 1023)) = lw (-3) 1023 ++ lw (-3) 1023 := by
      rw [glN_ft]
      unfold lng
      rw [List.map_append, lw_map 3 (-3) 1023 (fun z => -(lst z).n) (by rw [lst3])]
    rw [e1, e2, Cm.co_app, Cm.co_app, Cm.co_app, lw_co, lw_co]
    by_cases h : q.1 = 2 ∧ 0 ≤ q.2 ∧ q.2 < ((1023 : Nat) : Int)
    · rw [if_pos h, if_pos h]
      rw [show Sm.L - 6 + co [((2, ((1023 : Nat) : Int)), 1)] q = (co [((2, ((1023 : Nat) : Int)), 1)] q + (-3 + -3)) + Sm.L by omega, Int.add_emod_right]
    · rw [if_neg h, if_neg h]
      congr 1
      omega
  rw [← Cm.lf_only L0 hY hE]
  simp [lw_len]
/-- with a wire more that is not there -/
theorem more_wire : ∃ x ∈ lf Sm.L (glL (lng 1023 ++ [((2, ((1023 : Nat) : Int)), 1)]).length (ft (lng 1023 ++ [((2, ((1023 : Nat) : Int)), 1)]))), x.1 = (2, ((1023 : Nat) : Int)) := by
  have e : co (lf Sm.L (glL (lng 1023 ++ [((2, ((1023 : Nat) : Int)), 1)]).length (ft (lng 1023 ++ [((2, ((1023 : Nat) : Int)), 1)])))) (2, ((1023 : Nat) : Int)) % Sm.L = 1 % Sm.L := by
    rw [Cm.lf_eqm]
    rw [glL_ft, List.map_append]
    unfold lng
    rw [List.map_append, lw_map 3 3 1023 (fun z => (lst z).n) lst3, Cm.co_app, Cm.co_app, lw_co, if_neg (by simp)]
    simp [co, lst1]
  by_cases h : ∃ x ∈ lf Sm.L (glL (lng 1023 ++ [((2, ((1023 : Nat) : Int)), 1)]).length (ft (lng 1023 ++ [((2, ((1023 : Nat) : Int)), 1)]))), x.1 = (2, ((1023 : Nat) : Int))
  · exact h
  · exfalso
    rw [Cm.co_out (fun x hx hq => h ⟨x, hx, hq⟩)] at e
    exact absurd e (by decide)
theorem around_any (n : Nat) (i : Int) (w : World) (hn : n = 17 ∨ n = 3) (h0 : -9223372036854775808 ≤ i) (h1 : i ≤ 9223372036854775807) : Calls Tryd.prog 4 #[.int .i64 (n : Int), .int .i64 i] w fun e w' => ∃ r : Nat, e = .returned (.int .i64 (r : Int)) ∧ r < n ∧ w' = w := by
  have hp : (0 : Int) < (n : Int) := by omega
  have t1 : -(n : Int) < i.tmod n := by have := Int.lt_tmod_of_pos i hp; omega
  have t2 : i.tmod n < n := Int.tmod_lt_of_pos i hp
  have n0 : ¬ n = 0 := by omega
  have hb : (n : Int) ≤ 17 := by omega
  clear hn
  obtain ⟨t, ht⟩ : ∃ t, i.tmod n = t := ⟨_, rfl⟩
  rw [ht] at t1 t2
  have t7 : IntKind.i64.wrap t = t := IntWalk.i64_in _ (by omega)
  have dv : ∀ x : World, (Op.intDiv .rem .i64 i (n : Int)).run Tryd.prog x = .ok (.int .i64 t) x := fun x => by simp [Op.intDiv, ht, t7, n0, go_sem]
  by_cases h : t < 0
  · have w9 : IntKind.i64.wrap (t + (n : Int)) = t + (n : Int) := IntWalk.i64_in _ (by omega)
    go_enter Tryd.func4, Tryd.ntmps4
    go_wp2_with fail
    refine bodyPost_ret (v := .int .i64 (t + (n : Int))) (by simp [results, Tryd.results4, go_sem]) rfl ⟨(t + (n : Int)).toNat, by rw [Int.toNat_of_nonneg (by omega)], by omega, rfl⟩
  · go_enter Tryd.func4, Tryd.ntmps4
    go_wp2_with fail
    refine bodyPost_ret (v := .int .i64 t) (by simp [results, Tryd.results4, go_sem]) rfl ⟨t.toNat, by rw [Int.toNat_of_nonneg (by omega)], by omega, rfl⟩
end Ci
end Go.Proofs.YtnbhkhhghhfjoaaDoor
