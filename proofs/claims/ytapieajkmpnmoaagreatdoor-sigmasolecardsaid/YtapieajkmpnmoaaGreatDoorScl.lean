import Derived.Test.YtapieajkmpnmoaaGreatDoorSop
namespace Go.Proofs.YtapieajkmpnmoaaGreatDoor
open Go.RowKit

theorem pow_emod (a b : Int) (k : Nat) (h : a % Sm.L = b % Sm.L) : a ^ k % Sm.L = b ^ k % Sm.L := by
  induction k with
  | zero => rw [Int.pow_zero, Int.pow_zero]
  | succ k ih => rw [Int.pow_succ, Int.pow_succ]; exact mul_cong ih h

/-- the product of two Montgomery's forms is Montgomery's form of the product -/
theorem mont_mul {r s t : E4} {y z : Int} (hr : r.is (y * R)) (hs : s.is (z * R)) (ht : t.is (r.n * s.n * Ri)) : t.is (y * z * R) := by
  refine is_of ht ?_
  refine (mul_cong (mul_cong hr.m hs.m) rfl).trans ?_
  rw [show y * R * (z * R) * Ri = y * z * R * R * Ri by grind]
  exact cancel (y * z * R)

/-- what climb has after i rounds: the exponent's upper i bits of c -/
def clim (y z : Int) (e c i : Nat) : Int := y ^ (2 ^ i) * z ^ (e / 2 ^ (c - i))
theorem clim_start (y z : Int) (e c : Nat) (h : e < 2 ^ c) : clim y z e c 0 = y := by
  unfold clim
  rw [Nat.sub_zero, Nat.div_eq_of_lt h]
  simp [Int.pow_succ]
theorem clim_end (y z : Int) (e c : Nat) : clim y z e c c = y ^ (2 ^ c) * z ^ e := by
  unfold clim
  simp
theorem clim_next (y z : Int) (e c i : Nat) (hi : i < c) (b : Nat) (hb : e / 2 ^ (c - 1 - i) % 2 = b) : clim y z e c i * clim y z e c i * z ^ b = clim y z e c (i + 1) := by
  unfold clim
  have e1 : c - i = c - 1 - i + 1 := by omega
  have e2 : c - (i + 1) = c - 1 - i := by omega
  rw [e1, e2]
  have e3 : e / 2 ^ (c - 1 - i) = e / 2 ^ (c - 1 - i + 1) + e / 2 ^ (c - 1 - i + 1) + b := by
    rw [Nat.pow_succ, ← Nat.div_div_eq_div_mul]; omega
  have e4 : y ^ 2 ^ (i + 1) = y ^ 2 ^ i * y ^ 2 ^ i := by
    rw [← Int.pow_add]; congr 1; rw [Nat.pow_succ]; omega
  rw [e3, Int.pow_add, Int.pow_add, e4]
  grind

theorem and1_u64 (y : Int) (h0 : 0 ≤ y) (h1 : y ≤ 18446744073709551615) : (bits .and .u64 y 1 == 1) = decide (y % 2 = 1) := by
  have e : bits .and .u64 y 1 = y % 2 := by
    rw [u64_and y 1 h0 (by omega) (by omega) (by omega)]
    have : y.toNat &&& (1 : Int).toNat = y.toNat % 2 := Nat.and_two_pow_sub_one_eq_mod y.toNat 1
    rw [this]; omega
  rw [e, Bool.eq_iff_iff]
  simp

end Go.Proofs.YtapieajkmpnmoaaGreatDoor
