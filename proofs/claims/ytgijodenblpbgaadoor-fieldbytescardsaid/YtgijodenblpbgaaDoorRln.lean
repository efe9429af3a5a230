import Derived.Test.YtgijodenblpbgaaDoorRle
namespace Go.Proofs.YtgijodenblpbgaaDoor
open Go.RowKit
theorem rsn_le {d : Nat → Int} (M : Int) (hd : ∀ j, d j ≤ M * 67108863) : ∀ (m k : Nat), rsn d m k ≤ M * (67108864 ^ m - 1)
  | 0, _ => by simp [rsn]
  | m + 1, k => by
    have h := rsn_le M hd m (k + 1)
    have h2 := hd k
    rw [rsn, Int.pow_succ]
    have e : M * (67108864 ^ m * 67108864 - 1) = M * 67108863 + 67108864 * (M * (67108864 ^ m - 1)) := by grind
    omega
/-- the state of the rounds -/
structure Rd (D : Int) (gh : Nat) (c : Int) (ag : Bool) (y : Nat → Int) (X : Int) : Prop where
  hx : X = rsn y 10 0 + c
  c0 : 0 ≤ c
  c1 : c ≤ 1073741824
  y0 : ∀ j, 0 ≤ y j ∧ y j ≤ 68719476736
  md : X % pF = D % pF
  xb : dv X 9 ≤ 274877906944
  gh : gh = if ag then X.toNat + 1 else 0
  en : ag = false → X < 57896044618658097711785492504343953926634992332820282019728792003956564819968 ∧ ∀ j, j < 10 → y j = dig X j
theorem Rd.X0 {D : Int} {g : Nat} {c : Int} {ag : Bool} {y : Nat → Int} {X : Int} (h : Rd D g c ag y X) : 0 ≤ X := by
  rw [h.hx]
  have := rsn_nonneg (fun j => (h.y0 j).1) 10 0
  have := h.c0
  omega
theorem Rd.start (D : Int) (hm : rsn (fun j => dig D j + 608 * dig D (j + 10)) 10 0 % pF = D % pF) :
    Rd D ((rsn (fun j => dig D j + 608 * dig D (j + 10)) 10 0).toNat + 1) 0 true (fun j => dig D j + 608 * dig D (j + 10)) (rsn (fun j => dig D j + 608 * dig D (j + 10)) 10 0) := by
  have hb : ∀ j, 0 ≤ dig D j + 608 * dig D (j + 10) ∧ dig D j + 608 * dig D (j + 10) ≤ 609 * 67108863 := fun j => by
    have := dig_in D j
    have := dig_in D (j + 10)
    omega
  refine ⟨by omega, by omega, by omega, fun j => ?_, hm, ?_, by rw [if_pos rfl], fun h => by cases h⟩
  · have := hb j
    omega
  · have h := rsn_le 609 (fun j => (hb j).2) 10 0
    have h2 := dv_mono h 9
    refine Int.le_trans h2 ?_
    rw [dv_eq]
    decide +kernel
theorem Rd.next (D X : Int) (hX : 0 ≤ X) (md : X % pF = D % pF) (xb : dv X 9 ≤ 274877906944) :
    ∃ (gh' : Nat) (X' : Int), Rd D gh' (608 * dv X 10 + 19 * (dig X 9 / 2097152)) (decide (0 < 608 * dv X 10 + 19 * (dig X 9 / 2097152))) (rest255 X) X' ∧ gh' < X.toNat + 1 := by
  have R := round_mod X
  have e3 : 608 * dv X 10 + 19 * (dig X 9 / 2097152) = 19 * (dv X 9 / 2097152) := by rw [show dv X 10 = dv X 9 / 67108864 from rfl]; simp only [dig]; omega
  have p9 := dv_pos hX 9
  have hr : ∀ j, 0 ≤ rest255 X j ∧ rest255 X j ≤ 68719476736 := fun j => by
    unfold rest255
    have := dig_in X j
    have := dig_in X 9
    split <;> omega
  have hn := rsn_nonneg (fun j => (hr j).1) 10 0
  rw [e3] at R ⊢
  obtain ⟨q, hq⟩ : ∃ q, dv X 9 / 2097152 = q := ⟨_, rfl⟩
  rw [hq] at R ⊢
  have q0 : 0 ≤ q := by omega
  have pp : 0 < pF := by decide
  have hle : X - pF * q ≤ X := by have := Int.mul_nonneg (Int.le_of_lt pp) q0; omega
  have hmd : (X - pF * q) % pF = D % pF := by rw [Int.sub_mul_emod_self_left]; exact md
  refine ⟨if decide (0 < 19 * q) then (X - pF * q).toNat + 1 else 0, X - pF * q, ⟨R.symm, by omega, by omega, hr, hmd, Int.le_trans (dv_mono hle 9) xb, rfl, fun h => ?_⟩, ?_⟩
  · have h := of_decide_eq_false h
    have q1 : q = 0 := by omega
    subst q1
    rw [Int.mul_zero, Int.sub_zero]
    constructor
    · have := rsn_dig X 9 0
      rw [show dv X 0 = X from rfl, Nat.zero_add] at this
      have h2 := rsn_le 1 (d := dig X) (fun j => by have := dig_in X j; omega) 9 0
      rw [show (67108864 : Int) ^ 9 = 27606985387162255149739023449108101809804435888681546220650096895197184 by decide +kernel] at this h2
      omega
    · intro j _
      unfold rest255
      split
      · rename_i h9
        subst h9
        have : dig X 9 < 2097152 := by simp only [dig]; omega
        have := dig_in X 9
        omega
      · rfl
  · by_cases hz : 0 < 19 * q
    · rw [if_pos (decide_eq_true hz)]
      have : pF ≤ pF * q := by
        have := Int.mul_le_mul_of_nonneg_left (show 1 ≤ q by omega) (Int.le_of_lt pp)
        omega
      have : X - pF * q < X := by omega
      omega
    · rw [if_neg (by rw [decide_eq_true_iff]; exact hz)]
      omega
/-- at the end -/
theorem end_lt {X D : Int} (h0 : 0 ≤ X) (md : X % pF = D % pF) (h : X < pF) : X = D % pF := by rw [← md, Int.emod_eq_of_lt h0 h]
theorem end_ge {X D : Int} (md : X % pF = D % pF) (h : ¬ X < pF) (hx : X < 57896044618658097711785492504343953926634992332820282019728792003956564819968) : X - pF = D % pF := by
  rw [← md]
  have e : X % pF = (X - pF) % pF := by rw [Int.sub_emod_right]
  rw [e, Int.emod_eq_of_lt (by omega) (by unfold pF at *; omega)]
theorem numF_digs {X : Int} (h0 : 0 ≤ X) (hx : X < 57896044618658097711785492504343953926634992332820282019728792003956564819968) : numF (digs X) = X := by
  have h1 := numF_rsn (digs X) (dig X) 0 (fun j hj => by rw [digs_len] at hj; rw [Nat.zero_add]; simp [digs, List.getD_eq_getElem?_getD, hj])
  rw [digs_len] at h1
  have h2 := rsn_dig X 10 0
  rw [show dv X 0 = X from rfl, Nat.zero_add, dv_eq X 10] at h2
  have : X / 67108864 ^ 10 = 0 := Int.ediv_eq_zero_of_lt h0 (Int.lt_trans hx (by decide +kernel))
  rw [this] at h2
  omega
theorem digs_in (X : Int) : ∀ z ∈ digs X, 0 ≤ z ∧ z < 67108864 := fun z hz => by
  obtain ⟨j, _, rfl⟩ := List.mem_map.1 hz
  exact dig_in X j
theorem numF_prF : numF prF = pF := by decide +kernel
end Go.Proofs.YtgijodenblpbgaaDoor
