import Derived.Test.YtbmbopapmajaaaaDoorSrp
namespace Go.Proofs.YtbmbopapmajaaaaDoor
open Go.RowKit

/-- or of parts that don't meet, the upper one first -/
theorem or_up (i : Nat) (h l : Int) (hl0 : 0 ≤ l) (hl : l < 2 ^ i) (hh0 : 0 ≤ h) (hh : h * 2 ^ i < 18446744073709551616) (hi : i ≤ 63) : bits .or .u64 (h * 2 ^ i) l = h * 2 ^ i + l := by
  have k := or_parts i h l hl0 hl hh0 hh hi
  obtain ⟨H, hH⟩ := Int.eq_ofNat_of_zero_le (Int.mul_nonneg hh0 (Int.le_of_lt (Int.pow_pos (by decide) : (0 : Int) < 2 ^ i)))
  obtain ⟨Q, rfl⟩ := Int.eq_ofNat_of_zero_le hl0
  rw [hH] at k hh ⊢
  have hQ : Q < 18446744073709551616 := by
    have : (2 : Int) ^ i ≤ 2 ^ 63 := by
      have h2 : ((2 ^ i : Nat) : Int) ≤ ((2 ^ 63 : Nat) : Int) := Int.ofNat_le.2 (Nat.pow_le_pow_right (by decide) hi)
      simpa using h2
    have h63 : (2 : Int) ^ 63 = 9223372036854775808 := by decide
    omega
  rw [u64_or_nat _ _ (by omega) hQ, Nat.or_comm, ← u64_or_nat _ _ hQ (by omega), k]
  omega

/-- the limbs of 2^16 r + x -/
theorem low_math (r : E4) (x : Int) (hr : r.ok) (h0 : 0 ≤ x) (h1 : x < 65536) :
    bits .or .u64 (IntKind.u64.wrap (r.x0 * 65536)) x = Sm.lim 0 (65536 * r.n + x) ∧
    bits .or .u64 (IntKind.u64.wrap (r.x1 * 65536)) (r.x0 / 281474976710656) = Sm.lim 1 (65536 * r.n + x) ∧
    bits .or .u64 (IntKind.u64.wrap (r.x2 * 65536)) (r.x1 / 281474976710656) = Sm.lim 2 (65536 * r.n + x) ∧
    bits .or .u64 (IntKind.u64.wrap (r.x3 * 65536)) (r.x2 / 281474976710656) = Sm.lim 3 (65536 * r.n + x) := by
  obtain ⟨a0, a1, a2, a3⟩ := hr
  unfold Sm.Wd at *
  simp only [IntKind.wrap_u64]
  have e0 : r.x0 * 65536 % 18446744073709551616 = (r.x0 % 281474976710656) * 2 ^ 16 := by simp only [Int.reducePow]; omega
  have e1 : r.x1 * 65536 % 18446744073709551616 = (r.x1 % 281474976710656) * 2 ^ 16 := by simp only [Int.reducePow]; omega
  have e2 : r.x2 * 65536 % 18446744073709551616 = (r.x2 % 281474976710656) * 2 ^ 16 := by simp only [Int.reducePow]; omega
  have e3 : r.x3 * 65536 % 18446744073709551616 = (r.x3 % 281474976710656) * 2 ^ 16 := by simp only [Int.reducePow]; omega
  rw [e0, e1, e2, e3]
  rw [or_up 16 _ _ h0 (by simp only [Int.reducePow]; omega) (by omega) (by simp only [Int.reducePow]; omega) (by omega), or_up 16 _ _ (by omega) (by simp only [Int.reducePow]; omega) (by omega) (by simp only [Int.reducePow]; omega) (by omega), or_up 16 _ _ (by omega) (by simp only [Int.reducePow]; omega) (by omega) (by simp only [Int.reducePow]; omega) (by omega), or_up 16 _ _ (by omega) (by simp only [Int.reducePow]; omega) (by omega) (by simp only [Int.reducePow]; omega) (by omega)]
  simp only [Int.reducePow, E4.n, Sm.V]
  refine Sm.lim_of _ _ _ _ _ (r.x3 / 281474976710656) ?_ ?_ ?_ ?_ ?_
  · unfold Sm.Wd; omega
  · unfold Sm.Wd; omega
  · unfold Sm.Wd; omega
  · unfold Sm.Wd; omega
  · unfold Sm.V; omega

def lowE (n : Int) : E4 := ⟨Sm.lim 0 n, Sm.lim 1 n, Sm.lim 2 n, Sm.lim 3 n % 1152921504606846976⟩
theorem lowE_ok (n : Int) : (lowE n).ok := ⟨Sm.lim_wd 0 _, Sm.lim_wd 1 _, Sm.lim_wd 2 _, by unfold Sm.Wd lowE; simp only; omega⟩
theorem lowE_n (n : Int) : (lowE n).n = n % 7237005577332262213973186563042994240829374041602535252466099000494570602496 := by
  unfold lowE E4.n Sm.V; simp only [Sm.lim]
  have f1 : n / 340282366920938463463374607431768211456 = n / 18446744073709551616 / 18446744073709551616 := by omega
  have f2 : n / 6277101735386680763835789423207666416102355444464034512896 = n / 340282366920938463463374607431768211456 / 18446744073709551616 := by omega
  generalize hx1 : n / 18446744073709551616 = x1 at *
  generalize hx2 : n / 340282366920938463463374607431768211456 = x2 at *
  generalize hx3 : n / 6277101735386680763835789423207666416102355444464034512896 = x3 at *
  omega

/-- q c, by pieces of 32 bits -/
def qcE (p0 p1 p2 p3 c : Int) : E4 := ⟨p0 + p1 * 4294967296, p2 + p3 * 4294967296, c, 0⟩
theorem qc_math (q u0 u1 u2 u3 : Int) (h0 : 0 ≤ q) (h1 : q < 131072) (e0 : u0 = 1559614445 * q) (e1 : u1 = 1477600026 * q + u0 / 4294967296) (e2 : u2 = 2734136534 * q + u1 / 4294967296) (e3 : u3 = 350157278 * q + u2 / 4294967296) :
    (qcE (u0 % 4294967296) (u1 % 4294967296) (u2 % 4294967296) (u3 % 4294967296) (u3 / 4294967296)).n = q * 27742317777372353535851937790883648493 ∧ (qcE (u0 % 4294967296) (u1 % 4294967296) (u2 % 4294967296) (u3 % 4294967296) (u3 / 4294967296)).ok := by
  unfold qcE E4.n E4.ok Sm.V Sm.Wd
  simp only
  refine ⟨by omega, by omega, by omega, by omega, by omega⟩

/-- what is left is the least number -/
theorem step_fin (r : E4) (x q d : Int) (hr : r.ok) (hL : r.n < Sm.L) (h0 : 0 ≤ x) (h1 : x < 65536) (hq : q = r.x3 / 17592186044416) (hd : d = (65536 * r.n + x) % 7237005577332262213973186563042994240829374041602535252466099000494570602496 - q * 27742317777372353535851937790883648493) :
    0 ≤ q ∧ q < 131072 ∧ (0 ≤ d → d < Sm.L ∧ limE d = lst (65536 * r.n + x)) ∧ (d < 0 → 0 ≤ d + Sm.L ∧ d + Sm.L < Sm.L ∧ limE (d + Sm.L) = lst (65536 * r.n + x)) ∧ (-d < 115792089237316195423570985008687907853269984665640564039457584007913129639936 ∧ d < 7237005577332262213973186563042994240829374041602535252466099000494570602496) := by
  obtain ⟨a0, a1, a2, a3⟩ := hr
  unfold Sm.Wd at *
  have hn : (65536 * r.n + x) / 7237005577332262213973186563042994240829374041602535252466099000494570602496 = q := by
    rw [hq]; unfold E4.n Sm.V; omega
  have hqb : 0 ≤ q ∧ q < 131072 := by
    unfold E4.n Sm.V Sm.L at hL; omega
  have hmod : (65536 * r.n + x) = q * Sm.L + d := by
    have := Int.emod_add_mul_ediv (65536 * r.n + x) 7237005577332262213973186563042994240829374041602535252466099000494570602496
    rw [hn] at this
    rw [hd]; unfold Sm.L; omega
  generalize 65536 * r.n + x = n at *
  have hm2 : n % Sm.L = d % Sm.L := by rw [hmod, Int.add_comm, Int.add_mul_emod_self_right]
  refine ⟨hqb.1, hqb.2, fun h => ⟨?_, ?_⟩, fun h => ⟨?_, ?_, ?_⟩, ?_, ?_⟩
  · unfold Sm.L; omega
  · have hdl : d < Sm.L := by unfold Sm.L; omega
    unfold limE lst
    rw [hm2, Int.emod_eq_of_lt h hdl]
  · unfold Sm.L; omega
  · omega
  · have hd0 : 0 ≤ d + Sm.L := by unfold Sm.L; omega
    have e : (d + Sm.L) % Sm.L = d % Sm.L := Int.add_emod_right _ _
    unfold limE lst
    rw [hm2, ← e, Int.emod_eq_of_lt hd0 (by omega)]
  · omega
  · omega
theorem limE_shift (a b k : Int) (h : a = b + 115792089237316195423570985008687907853269984665640564039457584007913129639936 * k) : limE a = limE b := by
  have h0 := Sm.lim_of a (Sm.lim 0 b) (Sm.lim 1 b) (Sm.lim 2 b) (Sm.lim 3 b) ((a - b % 115792089237316195423570985008687907853269984665640564039457584007913129639936) / 115792089237316195423570985008687907853269984665640564039457584007913129639936) (Sm.lim_wd _ _) (Sm.lim_wd _ _) (Sm.lim_wd _ _) (Sm.lim_wd _ _) (by
    have hv := Sm.V_lim (b % 115792089237316195423570985008687907853269984665640564039457584007913129639936) (by omega) (by omega)
    have e0 : ∀ i, Sm.lim i (b % 115792089237316195423570985008687907853269984665640564039457584007913129639936) = Sm.lim i b := fun i => by unfold Sm.lim; split <;> omega
    rw [e0, e0, e0, e0] at hv
    rw [hv]; omega)
  unfold limE
  rw [h0.1, h0.2.1, h0.2.2.1, h0.2.2.2]

set_option maxHeartbeats 1000000 in
theorem rl_any (w : World) : Calls Tryd.prog 47 #[] w fun e w' => e = .returned lE.v ∧ Below w.heap.size w w' := by
  simp only [E4.v, lE]
  go_enter Tryd.func47, Tryd.ntmps47
  go_wp2
  refine bodyPost_ret (v := .agg #[.int .u64 6346243789798364141, .int .u64 1503914060200516822, .int .u64 0, .int .u64 1152921504606846976]) (by simp [results, Tryd.results47, go_sem]) rfl ⟨rfl, ?_⟩
  exact bl_alloc w _
theorem lE_ok : lE.ok := ⟨by unfold Sm.Wd lE; simp, by unfold Sm.Wd lE; simp, by unfold Sm.Wd lE; simp, by unfold Sm.Wd lE; simp⟩
theorem lE_n : lE.n = Sm.L := rfl
end Go.Proofs.YtbmbopapmajaaaaDoor
