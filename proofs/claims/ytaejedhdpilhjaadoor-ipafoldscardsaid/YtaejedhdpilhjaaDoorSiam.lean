import Derived.Test.YtaejedhdpilhjaaDoorSnum
namespace Go.Proofs.YtaejedhdpilhjaaDoor
open Go.RowKit
/-- the inverse of a number, 0 for 0 -/
def iv (n : Int) : E4 := lst (n ^ 7237005577332262213973186563042994240857116359379907606001950938285454250987)
theorem iv_zero {n : Int} (h : n % Sm.L = 0) : iv n = zero4 := by unfold iv; rw [zero_pow_L n h, zero_lst]
theorem iv_ok (n : Int) : (iv n).ok := lst_ok _
/-- the product of all that are not 0, ahead of a place -/
def pr (a : Nat → Int) : Nat → Int
  | 0 => 1
  | k + 1 => if a k % Sm.L = 0 then pr a k else pr a k * a k
theorem mul_ne {x y : Int} (hx : x % Sm.L ≠ 0) (hy : y % Sm.L ≠ 0) : x * y % Sm.L ≠ 0 := fun h => by
  have h1 := inv_mul y hy
  generalize y ^ 7237005577332262213973186563042994240857116359379907606001950938285454250987 = z at h1
  have h2 : x * y * z % Sm.L = 0 := by rw [Int.mul_emod, h, Int.zero_mul]; rfl
  have h3 : x * (y * z) % Sm.L = x * 1 % Sm.L := mul_cong rfl (by rw [h1]; rfl)
  rw [Int.mul_assoc, h3, Int.mul_one] at h2
  exact hx h2
theorem pr_ne (a : Nat → Int) (k : Nat) : pr a k % Sm.L ≠ 0 := by
  induction k with
  | zero => show (1 : Int) % Sm.L ≠ 0; decide
  | succ k ih =>
    show (if a k % Sm.L = 0 then pr a k else pr a k * a k) % Sm.L ≠ 0
    by_cases h : a k % Sm.L = 0
    · rw [if_pos h]; exact ih
    · rw [if_neg h]; exact mul_ne ih h
theorem pr_zero {a : Nat → Int} {k : Nat} (h : a k % Sm.L = 0) : pr a (k + 1) = pr a k := if_pos h
theorem pr_next {a : Nat → Int} {k : Nat} (h : a k % Sm.L ≠ 0) : pr a (k + 1) = pr a k * a k := if_neg h
theorem pow_mul_cong {x y : Int} (e : Nat) (h : x * x ^ e % Sm.L = 1) : x * (x * y) ^ e % Sm.L = y ^ e % Sm.L ∧ (y * x) ^ e * x % Sm.L = y ^ e % Sm.L := by
  have o : (1 : Int) = 1 % Sm.L := by decide
  constructor
  · rw [Int.mul_pow, ← Int.mul_assoc]
    have := mul_cong (a := x * x ^ e) (b := 1) (c := y ^ e) (d := y ^ e) (by rw [h]; exact o) rfl
    rw [this, Int.one_mul]
  · rw [Int.mul_pow, Int.mul_assoc]
    have := mul_cong (a := y ^ e) (b := y ^ e) (c := x ^ e * x) (d := 1) rfl (by rw [Int.mul_comm, h]; exact o)
    rw [this, Int.mul_one]
/-- backwards: a place's inverse, and the rest -/
theorem back_list {a : Nat → Int} {k : Nat} (h : a k % Sm.L ≠ 0) : lst ((lst (pr a k)).n * (iv (pr a (k + 1))).n) = iv (a k) := by
  unfold iv
  rw [lst_mul, lst_mul', pr_next h]
  exact lst_congr (pow_mul_cong _ (inv_mul _ (pr_ne a k))).1
theorem back_rest {a : Nat → Int} {k : Nat} (h : a k % Sm.L ≠ 0) : lst ((iv (pr a (k + 1))).n * a k) = iv (pr a k) := by
  unfold iv
  rw [lst_mul, pr_next h]
  exact lst_congr (pow_mul_cong _ (inv_mul _ h)).2
theorem front {a : Nat → Int} {k : Nat} (h : a k % Sm.L ≠ 0) : lst ((lst (pr a k)).n * a k) = lst (pr a (k + 1)) := by rw [lst_mul, pr_next h]
/-- a place of the list: forwards -/
def fs (a : Nat → Int) (k : Nat) : E4 := if a k % Sm.L = 0 then zero4 else lst (pr a k)
end Go.Proofs.YtaejedhdpilhjaaDoor
