import Derived.Test.YtaejedhdpilhjaaDoorSse
import Derived.Test.YtaejedhdpilhjaaDoorSrl
namespace Go.Proofs.YtaejedhdpilhjaaDoor
open Go.RowKit


/-- bit k of limbs -/
def bitE (a : E4) (k : Nat) : Int := a.get (k / 64) / 2 ^ (k % 64) % 2
theorem and1 (u : Int) (h0 : 0 ≤ u) (h1 : u ≤ 18446744073709551615) : bits .and .u64 u 1 = u % 2 := by
  rw [u64_and u 1 h0 (by omega) (by omega) (by omega)]
  have : u.toNat &&& (1 : Int).toNat = u.toNat % 2 := Nat.and_two_pow_sub_one_eq_mod u.toNat 1
  rw [this]; omega
theorem shr_bd (x : Int) (m : Nat) (h : Sm.Wd x) : 0 ≤ x / 2 ^ m ∧ x / 2 ^ m ≤ 18446744073709551615 := by
  unfold Sm.Wd at h
  have hp : (0 : Int) < 2 ^ m := Int.pow_pos (by decide)
  refine ⟨Int.ediv_nonneg h.1 (by omega), ?_⟩
  have := Int.ediv_le_self (2 ^ m) h.1
  omega


theorem or_low (X y : Int) (m : Nat) (hm : m < 64) (h0 : 0 ≤ X) (h1 : X ≤ 18446744073709551615) : bits .and .u64 (bits .or .u64 X (IntKind.u64.wrap (y * 2 ^ (64 - m)))) 1 = X % 2 := by
  have hY : (IntKind.u64.wrap (y * 2 ^ (64 - m))) % 2 = 0 ∧ 0 ≤ IntKind.u64.wrap (y * 2 ^ (64 - m)) ∧ IntKind.u64.wrap (y * 2 ^ (64 - m)) < 18446744073709551616 := by
    rw [IntKind.wrap_u64, show 64 - m = (63 - m) + 1 by omega, Int.pow_succ, ← Int.mul_assoc]
    generalize y * 2 ^ (63 - m) = z
    omega
  obtain ⟨hY1, hY2, hY3⟩ := hY
  generalize IntKind.u64.wrap (y * 2 ^ (64 - m)) = Y at *
  obtain ⟨A, hA⟩ := Int.eq_ofNat_of_zero_le h0
  obtain ⟨B, hB⟩ := Int.eq_ofNat_of_zero_le hY2
  subst hA
  subst hB
  have hlt : A ||| B < 2 ^ 64 := Nat.or_lt_two_pow (by omega) (by omega)
  have he : bits .or .u64 (A : Int) (B : Int) = ((A ||| B : Nat) : Int) := by
    rw [u64_or _ _ (by omega) (by omega) (by omega) (by omega)]; rfl
  rw [he, and1 _ (by omega) (by omega)]
  have h2 : (A ||| B) % 2 ^ 1 = A % 2 ^ 1 ||| B % 2 ^ 1 := Nat.or_mod_two_pow
  have hb : B % 2 ^ 1 = 0 := by omega
  rw [hb, Nat.or_zero] at h2
  omega


/-- the bits of a least number from 253 on are 0 -/
theorem bit_high (n : Int) (k : Nat) (h1 : 252 < k) (h2 : k < 256) : bitE (lst n) k = 0 := by
  have hl := mod_bd n
  have hn := lst_n n
  have ho := lst_ok n
  generalize n % Sm.L = N at hl hn
  generalize lst n = r at hn ho
  obtain ⟨⟨a0, a1⟩, ⟨b0, b1⟩, ⟨c0, c1⟩, ⟨d0, d1⟩⟩ := ho
  have hx : 0 ≤ r.x3 ∧ r.x3 < 2305843009213693952 := by
    simp only [E4.n, Sm.V, Sm.L] at hn hl
    omega
  unfold bitE
  rw [show k / 64 = 3 by omega]
  simp only [E4.get]
  have hk : k % 64 = 61 ∨ k % 64 = 62 ∨ k % 64 = 63 := by omega
  rcases hk with h | h | h <;> rw [h] <;> simp only [Int.reducePow] <;> omega
end Go.Proofs.YtaejedhdpilhjaaDoor
