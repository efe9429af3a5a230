import Derived.Test.YtglalahmcckjaaaDoorSnf
namespace Go.Proofs.YtglalahmcckjaaaDoor
open Go.RowKit

/-- bit j of a number -/
def bt (N : Int) (j : Nat) : Int := N / 2 ^ j % 2
theorem bt_bd (N : Int) (j : Nat) : 0 ≤ bt N j ∧ bt N j ≤ 1 := by unfold bt; omega
theorem win_one (N : Int) (k : Nat) : win N k 1 = bt N k := rfl
theorem bitE_bt (a : E4) (ha : a.ok) (k : Nat) (hk : k < 256) : bitE a k = bt a.n k := by
  rw [← win_one]
  by_cases h : k / 64 + 1 < 4
  · rw [win_low a ha k 1 h (by omega)]
    unfold bitE
    rw [show 64 - k % 64 = (63 - k % 64) + 1 by omega, Int.pow_succ, ← Int.mul_assoc]
    generalize a.get (k / 64 + 1) % 2 ^ (k % 64) * 2 ^ (63 - k % 64) = z
    generalize a.get (k / 64) / 2 ^ (k % 64) = x
    omega
  · have h3 : k / 64 = 3 := by omega
    rw [win_top a ha k 1 h3]
    unfold bitE
    rw [h3]
    rfl
theorem bt_high (a : E4) (ha : a.ok) (k : Nat) (hk : 256 ≤ k) : bt a.n k = 0 := by
  obtain ⟨h0, h1⟩ := ok_bd ha
  unfold bt
  have : a.n / 2 ^ k = 0 := Int.ediv_eq_zero_of_lt h0 (by
    have e := p2mul 256 k hk
    have p := p2pos (k - 256)
    rw [e]
    have h2 := Int.mul_le_mul_of_nonneg_left (c := (2 : Int) ^ 256) (show (1 : Int) ≤ 2 ^ (k - 256) by omega) (by decide)
    rw [Int.mul_one] at h2
    have h3 : (2 : Int) ^ 256 = 115792089237316195423570985008687907853269984665640564039457584007913129639936 := by decide
    omega)
  rw [this]
  rfl
theorem win_succ (N : Int) (hN : 0 ≤ N) (i k : Nat) : win N i (k + 1) = win N i k + bt N (i + k) * 2 ^ k := by
  obtain ⟨n, rfl⟩ := Int.eq_ofNat_of_zero_le hN
  unfold win bt
  rw [Int.pow_add 2 i k, ← Int.ediv_ediv_of_nonneg (by have := p2pos i; omega)]
  have e1 : (n : Int) / 2 ^ i = ((n / 2 ^ i : Nat) : Int) := by simp
  rw [e1]
  generalize n / 2 ^ i = m
  have e2 : (m : Int) % 2 ^ (k + 1) = ((m % 2 ^ (k + 1) : Nat) : Int) := by simp
  have e3 : (m : Int) % 2 ^ k = ((m % 2 ^ k : Nat) : Int) := by simp
  have e4 : (m : Int) / 2 ^ k % 2 = ((m / 2 ^ k % 2 : Nat) : Int) := by simp
  rw [e2, e3, e4, Nat.pow_succ, Nat.mod_mul, Int.natCast_add, Int.natCast_mul, Int.mul_comm]
  simp
theorem win_par (N : Int) (i m : Nat) (hm : 1 ≤ m) : win N i m % 2 = bt N i := by
  unfold win bt
  exact Int.emod_emod_of_dvd _ ⟨2 ^ (m - 1), p2mul 1 m hm⟩
theorem win_zero (N : Int) (i : Nat) : win N i 0 = 0 := by unfold win; omega

theorem rBit_all (a : E4) (ha : a.ok) (k : Nat) (w : World) : Calls Tryd.prog 44 #[a.v, .int .i64 k] w fun e w' => e = .returned (.int .i64 (bt a.n k)) ∧ Below w.heap.size w w' := by
  by_cases hk : k < 256
  · rw [← bitE_bt a ha k hk]
    exact rBit_in a k w ha hk
  · rw [bt_high a ha k (by omega)]
    exact rBit_out a k w (Or.inr (by omega))

end Go.Proofs.YtglalahmcckjaaaDoor
