import Derived.Test.YtgijodenblpbgaaDoorDec
namespace Go.Proofs.YtgijodenblpbgaaDoor
open Go.RowKit

theorem num_range : ∀ (k M : Nat), num ((List.range k).map fun j => ((M / 256 ^ j % 256 : Nat) : Int)) = M % 256 ^ k
  | 0, M => by simp [num, Nat.mod_one]
  | k + 1, M => by
    have ih := num_range k (M / 256)
    rw [List.range_succ_eq_map, List.map_cons, List.map_map, num]
    have e : ((fun j : Nat => ((M / 256 ^ j % 256 : Nat) : Int)) ∘ Nat.succ) = fun j => ((M / 256 / 256 ^ j % 256 : Nat) : Int) := by
      funext j
      show ((M / 256 ^ (j + 1) % 256 : Nat) : Int) = _
      rw [Nat.pow_succ, Nat.mul_comm, ← Nat.div_div_eq_div_mul]
    rw [e, ih, Nat.pow_succ, Nat.mul_comm (256 ^ k), Nat.mod_mul]
    simp
    omega
theorem byt_nat (M j : Nat) : byt (M : Int) j = ((M / 256 ^ j % 256 : Nat) : Int) := by unfold byt; simp
theorem num_bytes (M : Nat) (h : M < 256 ^ 32) : num (bytes (M : Int)) = M := by
  have e : byt (M : Int) = fun j => ((M / 256 ^ j % 256 : Nat) : Int) := by funext j; exact byt_nat M j
  unfold bytes
  rw [e, num_range, Nat.mod_eq_of_lt h]
theorem bytes_bd (m : Int) : ∀ z ∈ bytes m, 0 ≤ z ∧ z ≤ 255 := by
  intro z hz
  obtain ⟨j, _, rfl⟩ := List.mem_map.1 hz
  exact byt_bd m j
theorem P_lt (n : Int) : 0 ≤ n % Fm.P ∧ n % Fm.P < 57896044618658097711785492504343953926634992332820282019728792003956564819949 := ⟨Int.emod_nonneg _ (by decide), Int.emod_lt_of_pos _ (by decide)⟩
theorem num_bytes_P (n : Int) : ((num (bytes (n % Fm.P)) : Nat) : Int) = n % Fm.P := by
  obtain ⟨h0, h1⟩ := P_lt n
  obtain ⟨M, hM⟩ := Int.eq_ofNat_of_zero_le h0
  rw [hM] at h1 ⊢
  rw [num_bytes M (by have : (256 : Nat) ^ 32 = 115792089237316195423570985008687907853269984665640564039457584007913129639936 := by decide
                      omega)]
theorem bytes_same (m n : Int) : decide (bytes (m % Fm.P) = bytes (n % Fm.P)) = decide (m % Fm.P = n % Fm.P) := by
  rw [Bool.eq_iff_iff, decide_eq_true_iff, decide_eq_true_iff]
  constructor
  · intro h
    rw [← num_bytes_P m, ← num_bytes_P n, h]
  · intro h
    rw [h]
theorem dec_M (n : Int) : n % Fm.P = ((num (bytes (n % Fm.P)) % 57896044618658097711785492504343953926634992332820282019728792003956564819968 : Nat) : Int) := by
  have h := num_bytes_P n
  obtain ⟨h0, h1⟩ := P_lt n
  omega
theorem zs_byt (zs : List Int) (hz : ∀ z ∈ zs, 0 ≤ z ∧ z ≤ 255) (j : Nat) (v : Value) (h : (zs.map fun z => Value.int .u8 z)[j]? = some v) : v = .int .u8 (byt ((num zs : Nat) : Int) j) := by
  rw [List.getElem?_map] at h
  have hg := num_get zs j hz
  rw [← byt_nat] at hg
  cases hj : zs[j]? with
  | none => rw [hj] at h; cases h
  | some z =>
    rw [hj] at h
    rw [List.getD_eq_getElem?_getD, hj] at hg
    simp at hg h
    rw [← h, hg]
theorem zs_cell (zs : List Int) (lz : zs.length = 32) (hz : ∀ z ∈ zs, 0 ≤ z ∧ z ≤ 255) (j : Nat) (hj : j < 32) : (zs.map fun z => Value.int .u8 z)[j]? = some (.int .u8 (byt ((num zs : Nat) : Int) j)) := by
  cases h : (zs.map fun z => Value.int .u8 z)[j]? with
  | none => rw [List.getElem?_eq_none_iff] at h; simp [lz] at h; omega
  | some v => rw [zs_byt zs hz j v h]
/-- the low and the high half -/
theorem lo_byt (N j : Nat) : byt ((N % 340282366920938463463374607431768211456 : Nat) : Int) j = if j < 16 then byt (N : Int) j else 0 := by
  rw [byt_nat, byt_nat]
  have hbig : 16 ≤ j → (N % 340282366920938463463374607431768211456) / 256 ^ j = 0 := fun h => Nat.div_eq_of_lt (Nat.lt_of_lt_of_le (Nat.mod_lt _ (by decide)) (by
    have := Nat.pow_le_pow_right (n := 256) (by decide) h
    have e : (256 : Nat) ^ 16 = 340282366920938463463374607431768211456 := by decide
    omega))
  by_cases h : j < 16
  · rw [if_pos h]
    congr 1
    have e : (340282366920938463463374607431768211456 : Nat) = 256 ^ j * (256 * 256 ^ (15 - j)) := by
      rw [← Nat.mul_assoc, ← Nat.pow_succ, ← Nat.pow_add, show j + 1 + (15 - j) = 16 by omega]
    rw [e, Nat.mod_mul_right_div_self, Nat.mod_mul_right_mod]
  · rw [if_neg h, hbig (by omega)]; rfl
theorem hi_byt (N j : Nat) : byt ((N / 340282366920938463463374607431768211456 % 170141183460469231731687303715884105728 : Nat) : Int) j = if j < 16 then (if j = 15 then byt (N : Int) 31 % 128 else byt (N : Int) (16 + j)) else 0 := by
  rw [byt_nat, byt_nat, byt_nat]
  have e0 : N / 256 ^ (16 + j) = N / 340282366920938463463374607431768211456 / 256 ^ j := by
    rw [Nat.pow_add, ← Nat.div_div_eq_div_mul]
  have e31 : N / 256 ^ 31 = N / 340282366920938463463374607431768211456 / 256 ^ 15 := by
    rw [show 31 = 16 + 15 from rfl, Nat.pow_add, ← Nat.div_div_eq_div_mul]
  rw [e0, e31]
  generalize N / 340282366920938463463374607431768211456 = H
  by_cases h : j < 16
  · rw [if_pos h]
    by_cases h15 : j = 15
    · subst h15
      rw [if_pos rfl]
      have e : (256 : Nat) ^ 15 = 1329227995784915872903807060280344576 := by decide
      rw [e]
      omega
    · rw [if_neg h15]
      congr 1
      have e : (170141183460469231731687303715884105728 : Nat) = 256 ^ j * (256 * (256 ^ (14 - j) * 128)) := by
        rw [← Nat.mul_assoc, ← Nat.pow_succ, ← Nat.mul_assoc, ← Nat.pow_add, show j + 1 + (14 - j) = 15 by omega]
      rw [e, Nat.mod_mul_right_div_self, Nat.mod_mul_right_mod]
  · rw [if_neg h]
    have : (H % 170141183460469231731687303715884105728) / 256 ^ j = 0 := Nat.div_eq_of_lt (Nat.lt_of_lt_of_le (Nat.mod_lt _ (by decide)) (by
      have := Nat.pow_le_pow_right (n := 256) (by decide) (show 16 ≤ j by omega)
      have e : (256 : Nat) ^ 16 = 340282366920938463463374607431768211456 := by decide
      omega))
    rw [this]; rfl
theorem halves (N : Nat) : ((N % 57896044618658097711785492504343953926634992332820282019728792003956564819968 : Nat) : Int) = ((N % 340282366920938463463374607431768211456 : Nat) : Int) + ((N / 340282366920938463463374607431768211456 % 170141183460469231731687303715884105728 : Nat) : Int) * 340282366920938463463374607431768211456 := by
  omega
theorem num_lo (N : Nat) : num (bytes ((N % 340282366920938463463374607431768211456 : Nat) : Int)) % 57896044618658097711785492504343953926634992332820282019728792003956564819968 = N % 340282366920938463463374607431768211456 := by
  rw [num_bytes _ (by have : (256 : Nat) ^ 32 = 115792089237316195423570985008687907853269984665640564039457584007913129639936 := by decide
                      omega)]
  omega
theorem num_hi (N : Nat) : num (bytes ((N / 340282366920938463463374607431768211456 % 170141183460469231731687303715884105728 : Nat) : Int)) % 57896044618658097711785492504343953926634992332820282019728792003956564819968 = N / 340282366920938463463374607431768211456 % 170141183460469231731687303715884105728 := by
  rw [num_bytes _ (by have : (256 : Nat) ^ 32 = 115792089237316195423570985008687907853269984665640564039457584007913129639936 := by decide
                      omega)]
  omega
def sh5 : E5 := ⟨0, 0, 67108864, 0, 0⟩
theorem sh5n : sh5.n = 340282366920938463463374607431768211456 := by decide
theorem sh5ok : sh5.ok := ⟨⟨by decide, by decide⟩, ⟨by decide, by decide⟩, ⟨by decide, by decide⟩, ⟨by decide, by decide⟩, ⟨by decide, by decide⟩⟩
theorem sum_halves (N : Nat) : lst ((lst ((N % 340282366920938463463374607431768211456 : Nat) : Int)).n + (lst ((lst ((N / 340282366920938463463374607431768211456 % 170141183460469231731687303715884105728 : Nat) : Int)).n * sh5.n)).n) = lst ((N % 57896044618658097711785492504343953926634992332820282019728792003956564819968 : Nat) : Int) := by
  rw [lst_add, lst_add', sh5n, halves]
  refine lst_congr ?_
  rw [Int.add_emod, Int.mul_emod, lst_n, emod_emod_P, ← Int.mul_emod, ← Int.add_emod]
end Go.Proofs.YtgijodenblpbgaaDoor
