import Derived.Test.YtnbcfchbhappeaaDoorInv
import Derived.Test.YtnbcfchbhappeaaDoorNt
namespace Go.Proofs.YtnbcfchbhappeaaDoor.Fe
open Go.RowKit

theorem fermat_int (p e : Nat) (hp : Nt.Prime p) (he : p = e + 2) (a : Int) (h : a % (p : Int) ≠ 0) : a * a ^ e % (p : Int) = 1 := by
  have hp2 := hp.1
  have hpos : (0 : Int) < p := by omega
  have h0 : 0 ≤ a % (p : Int) := Int.emod_nonneg _ (by omega)
  obtain ⟨m, hm⟩ := Int.eq_ofNat_of_zero_le h0
  have hmp : m < p := by
    have := Int.emod_lt_of_pos a hpos
    omega
  have hd : ¬ p ∣ m := by
    intro hd
    have hm0 : m ≠ 0 := by intro e0; subst e0; exact h (by omega)
    have := Nat.le_of_dvd (by omega) hd
    omega
  have hf := Nt.fermat hp hd
  have key : ∀ k : Nat, a ^ k % (p : Int) = ((m ^ k % p : Nat) : Int) := by
    intro k
    induction k with
    | zero => simp
    | succ k ih =>
      rw [Int.pow_succ, Int.mul_emod, ih, hm, Nat.pow_succ, Nat.mul_mod, Nat.mod_eq_of_lt hmp]
      simp
      rw [Int.mul_emod, Int.emod_emod_of_dvd _ (Int.dvd_refl _), ← Int.mul_emod]
  have e1 : a * a ^ e = a ^ (p - 1) := by
    rw [show p - 1 = e + 1 by omega, Int.pow_succ, Int.mul_comm]
  rw [e1, key, hf]
  rfl

theorem P_nat : ((57896044618658097711785492504343953926634992332820282019728792003956564819949 : Nat) : Int) = Fm.P := rfl

theorem inv_mul (a : Int) (h : a % Fm.P ≠ 0) : a * a ^ 57896044618658097711785492504343953926634992332820282019728792003956564819947 % Fm.P = 1 := by
  rw [← P_nat] at h ⊢
  exact fermat_int _ _ Nt.pP (by decide) a h

theorem lst_congr {n m : Int} (h : n % Fm.P = m % Fm.P) : lst n = lst m := by unfold lst; rw [h]
theorem emod_emod_P (n : Int) : n % Fm.P % Fm.P = n % Fm.P := Int.emod_emod_of_dvd _ (Int.dvd_refl _)
theorem lst_add (n m : Int) : lst ((lst n).n + m) = lst (n + m) := lst_congr (by rw [lst_n, Int.add_emod, emod_emod_P, ← Int.add_emod])
theorem lst_add' (n m : Int) : lst (n + (lst m).n) = lst (n + m) := lst_congr (by rw [lst_n, Int.add_emod, emod_emod_P, ← Int.add_emod])
theorem lst_sub (n m : Int) : lst ((lst n).n - m) = lst (n - m) := lst_congr (by rw [lst_n, Int.sub_emod, emod_emod_P, ← Int.sub_emod])
theorem lst_mul (n m : Int) : lst ((lst n).n * m) = lst (n * m) := lst_congr (by rw [lst_n, Int.mul_emod, emod_emod_P, ← Int.mul_emod])
theorem lst_mul' (n m : Int) : lst (n * (lst m).n) = lst (n * m) := lst_congr (by rw [lst_n, Int.mul_emod, emod_emod_P, ← Int.mul_emod])
theorem lst_n' (n : Int) : lst (lst n).n = lst n := lst_congr (by rw [lst_n, emod_emod_P])
theorem lst_pow (n : Int) (k : Nat) : lst ((lst n).n ^ k) = lst (n ^ k) := lst_congr (pow_emod _ _ _ (by rw [lst_n, emod_emod_P]))

theorem zero_lst : lst 0 = ⟨0, 0, 0, 0, 0⟩ := (zero_is 0).2 rfl
theorem lst_small (n : Int) (h : Fm.Wd n) (k : n < 2251799813685248) : lst n = ⟨n, 0, 0, 0, 0⟩ := by
  rw [int_is n h]; unfold Fm.Wd at h; congr 1 <;> omega

/-- a times its inverse -/
theorem mul_inv (a : Int) (h : a % Fm.P ≠ 0) : lst (a * a ^ 57896044618658097711785492504343953926634992332820282019728792003956564819947) = lst 1 :=
  lst_congr (by rw [inv_mul a h]; rfl)
theorem zero_pow_P (a : Int) (h : a % Fm.P = 0) : lst (a ^ 57896044618658097711785492504343953926634992332820282019728792003956564819947) = lst 0 := by
  apply lst_congr
  have e : a ^ 57896044618658097711785492504343953926634992332820282019728792003956564819947 = a * a ^ 57896044618658097711785492504343953926634992332820282019728792003956564819946 := by
    rw [Int.mul_comm, ← Int.pow_succ]
  rw [e, Int.mul_emod, h, Int.zero_mul]

end Go.Proofs.YtnbcfchbhappeaaDoor.Fe
