import Derived.Test.YtgijodenblpbgaaDoorRef2
import Derived.Deep.LoopGhost
namespace Go.Proofs.YtgijodenblpbgaaDoor
open Go.RowKit
/-- m columns from column k on, as a number -/
def rsn (d : Nat → Int) : Nat → Nat → Int
  | 0, _ => 0
  | m + 1, k => d k + 67108864 * rsn d m (k + 1)
theorem dv_dig (D : Int) (k : Nat) : dv D k = dig D k + 67108864 * dv D (k + 1) := by simp only [dig, dv]; omega
theorem dig_in (D : Int) (k : Nat) : 0 ≤ dig D k ∧ dig D k < 67108864 := by simp only [dig]; omega
theorem rsn_dig (D : Int) : ∀ (m k : Nat), dv D k = rsn (dig D) m k + 67108864 ^ m * dv D (k + m)
  | 0, k => by simp [rsn]
  | m + 1, k => by
    have h := rsn_dig D m (k + 1)
    have e := dv_dig D k
    rw [show k + 1 + m = k + (m + 1) by omega] at h
    rw [e, h, rsn, Int.pow_succ]
    grind
theorem rsn_congr {d e : Nat → Int} : ∀ (m k : Nat), (∀ j, k ≤ j → j < k + m → d j = e j) → rsn d m k = rsn e m k
  | 0, _, _ => rfl
  | m + 1, k, h => by rw [rsn, rsn, h k (by omega) (by omega), rsn_congr m (k + 1) (fun j h1 h2 => h j (by omega) (by omega))]
theorem rsn_add {d e : Nat → Int} : ∀ (m k : Nat), rsn (fun j => d j + e j) m k = rsn d m k + rsn e m k
  | 0, _ => rfl
  | m + 1, k => by rw [rsn, rsn, rsn, rsn_add m (k + 1)]; omega
theorem rsn_split (d : Nat → Int) : ∀ (a b k : Nat), rsn d (a + b) k = rsn d a k + 67108864 ^ a * rsn d b (k + a)
  | 0, b, k => by simp [rsn]
  | a + 1, b, k => by
    have h := rsn_split d a b (k + 1)
    rw [show k + 1 + a = k + (a + 1) by omega] at h
    rw [show a + 1 + b = (a + b) + 1 by omega, rsn, rsn, h, Int.pow_succ]
    grind
theorem rsn_nonneg {d : Nat → Int} (hd : ∀ j, 0 ≤ d j) : ∀ (m k : Nat), 0 ≤ rsn d m k
  | 0, _ => Int.le_refl _
  | m + 1, k => by
    have := rsn_nonneg hd m (k + 1)
    have := hd k
    rw [rsn]; omega
theorem numF_rsn : ∀ (xs : List Int) (d : Nat → Int) (k : Nat), (∀ j, j < xs.length → d (k + j) = xs.getD j 0) → numF xs = rsn d xs.length k
  | [], _, _, _ => rfl
  | x :: xs, d, k, h => by
    have h0 := h 0 (by simp)
    have ih := numF_rsn xs d (k + 1) (fun j hj => by have := h (j + 1) (by simp; omega); rw [show k + 1 + j = k + (j + 1) by omega]; simpa using this)
    simp only [Nat.add_zero, List.getD_cons_zero] at h0
    rw [List.length_cons, rsn, numF, ih, h0]
theorem dv_pos {D : Int} (h : 0 ≤ D) : ∀ k, 0 ≤ dv D k
  | 0 => h
  | k + 1 => by have := dv_pos h k; rw [dv]; omega
theorem dv_mono {D E : Int} (h : D ≤ E) : ∀ k, dv D k ≤ dv E k
  | 0 => h
  | k + 1 => by have := dv_mono h k; rw [dv, dv]; omega
/-- 2^255 - 19 -/
def pF : Int := 57896044618658097711785492504343953926634992332820282019728792003956564819949
/-- a column's step -/
theorem col_step (q c x X : Int) (h : c = q - (x + 67108864 * X)) : (c + x) % 67108864 = q % 67108864 ∧ (c + x) / 67108864 = q / 67108864 - X := by omega
/-- the columns folded -/
theorem fold_mod (D : Int) (hD : dv D 20 = 0) : rsn (fun j => dig D j + 608 * dig D (j + 10)) 10 0 % pF = D % pF := by
  have h1 : D = rsn (dig D) 20 0 := by
    have := rsn_dig D 20 0
    rw [show dv D 0 = D from rfl, Nat.zero_add, hD, Int.mul_zero, Int.add_zero] at this
    exact this
  have h2 := rsn_split (dig D) 10 10 0
  have h3 : rsn (fun j => dig D j + 608 * dig D (j + 10)) 10 0 = rsn (dig D) 10 0 + 608 * rsn (dig D) 10 10 := by
    simp only [rsn, Nat.reduceAdd]; omega
  simp only [Nat.zero_add, Nat.reduceAdd] at h2
  rw [h2] at h1
  rw [h3]
  have e : (67108864 : Int) ^ 10 = 32 * pF + 608 := by decide +kernel
  rw [e] at h1
  generalize rsn (dig D) 10 0 = A at *
  generalize rsn (dig D) 10 10 = B at *
  rw [h1, show A + (32 * pF + 608) * B = A + 608 * B + pF * (32 * B) by grind, Int.add_mul_emod_self_left]
/-- a round: what is above 2^255 comes in again 19 times -/
def rest255 (X : Int) : Nat → Int := fun j => if j = 9 then dig X 9 % 2097152 else dig X j
theorem round_mod (X : Int) : rsn (rest255 X) 10 0 + (608 * dv X 10 + 19 * (dig X 9 / 2097152)) = X - pF * (dv X 9 / 2097152) := by
  have h1 := rsn_dig X 9 0
  have h2 := rsn_split (rest255 X) 9 1 0
  have h3 : rsn (rest255 X) 9 0 = rsn (dig X) 9 0 := rsn_congr 9 0 (fun j _ h => by unfold rest255; rw [if_neg (by omega)])
  have h4 : rsn (rest255 X) 1 9 = dig X 9 % 2097152 := by simp [rsn, rest255]
  rw [show dv X 0 = X from rfl, Nat.zero_add] at h1
  rw [h3] at h2
  simp only [Nat.zero_add, Nat.reduceAdd] at h2
  rw [h4] at h2
  have e2 : dig X 9 % 2097152 = dv X 9 % 2097152 := by simp only [dig]; omega
  have e3 : 608 * dv X 10 + 19 * (dig X 9 / 2097152) = 19 * (dv X 9 / 2097152) := by rw [show dv X 10 = dv X 9 / 67108864 from rfl]; simp only [dig]; omega
  rw [h2, e2, e3]
  have e : (67108864 : Int) ^ 9 * 2097152 = pF + 19 := by decide +kernel
  have e4 : dv X 9 = 2097152 * (dv X 9 / 2097152) + dv X 9 % 2097152 := by omega
  generalize hq : dv X 9 / 2097152 = q at *
  generalize hr : dv X 9 % 2097152 = r at *
  rw [e4] at h1
  have : (67108864 : Int) ^ 9 * (2097152 * q + r) = (pF + 19) * q + 67108864 ^ 9 * r := by rw [← e]; grind
  rw [this] at h1
  generalize (67108864 : Int) ^ 9 * r = t at *
  generalize rsn (dig X) 9 0 = A at *
  grind
theorem dv_eq (X : Int) : ∀ k : Nat, dv X k = X / 67108864 ^ k
  | 0 => by simp [dv]
  | k + 1 => by rw [dv, dv_eq X k, Int.ediv_ediv_of_nonneg (by exact Int.le_of_lt (Int.pow_pos (by decide))), Int.pow_succ]
end Go.Proofs.YtgijodenblpbgaaDoor
