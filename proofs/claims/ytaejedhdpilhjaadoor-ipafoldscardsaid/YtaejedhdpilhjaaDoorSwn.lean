import Derived.Test.YtaejedhdpilhjaaDoorSsb
namespace Go.Proofs.YtaejedhdpilhjaaDoor
open Go.RowKit

theorem p2pos (k : Nat) : (0 : Int) < 2 ^ k := Int.pow_pos (by decide)
theorem p2mul (m k : Nat) (h : m ≤ k) : (2 : Int) ^ k = 2 ^ m * 2 ^ (k - m) := by rw [← Int.pow_add]; congr 1; omega
/-- the bits of a number from a place in a limb on -/
theorem win_gen (lo X H : Int) (q off m : Nat) (h0 : 0 ≤ lo) (h1 : lo < 2 ^ (64 * q)) (ho : off < 64) :
    (lo + 2 ^ (64 * q) * (X + 2 ^ 64 * H)) / 2 ^ (64 * q + off) % 2 ^ m = (X / 2 ^ off + 2 ^ (64 - off) * H) % 2 ^ m := by
  have hp := p2pos (64 * q)
  have hq := p2pos off
  rw [Int.pow_add, ← Int.ediv_ediv_of_nonneg (by omega), Int.add_mul_ediv_left _ _ (by omega), Int.ediv_eq_zero_of_lt h0 h1, Int.zero_add, p2mul off 64 (by omega), Int.mul_assoc, Int.add_mul_ediv_left _ _ (by omega)]
theorem win_red (X y z : Int) (off m : Nat) (ho : off < 64) (hm : m ≤ 64) :
    (X + 2 ^ (64 - off) * (y + 2 ^ 64 * z)) % 2 ^ m = (X + (y % 2 ^ off) * 2 ^ (64 - off)) % 2 ^ m := by
  have e := Int.emod_add_mul_ediv y (2 ^ off)
  have h64 : (2 : Int) ^ (64 - off) * 2 ^ off = 2 ^ 64 := by rw [← Int.pow_add]; congr 1; omega
  have : X + 2 ^ (64 - off) * (y + 2 ^ 64 * z) = X + (y % 2 ^ off) * 2 ^ (64 - off) + 2 ^ m * (2 ^ (64 - m) * (y / 2 ^ off + 2 ^ (64 - off) * z)) := by
    rw [← Int.mul_assoc (2 ^ m), ← p2mul m 64 hm, Int.mul_add, Int.mul_add (2 ^ 64), show (2 : Int) ^ (64 - off) * y = (y % 2 ^ off) * 2 ^ (64 - off) + 2 ^ 64 * (y / 2 ^ off) by
      rw [← h64, Int.mul_assoc, Int.mul_comm (y % 2 ^ off), ← Int.mul_add, e], show (2 : Int) ^ (64 - off) * (2 ^ 64 * z) = 2 ^ 64 * (2 ^ (64 - off) * z) by rw [← Int.mul_assoc, Int.mul_comm (2 ^ (64 - off)), Int.mul_assoc]]
    omega
  rw [this, Int.add_mul_emod_self_left]
/-- the number of m bits from place k on -/
def win (N : Int) (k m : Nat) : Int := N / 2 ^ k % 2 ^ m
theorem win_bd (N : Int) (k m : Nat) : 0 ≤ win N k m ∧ win N k m < 2 ^ m := ⟨Int.emod_nonneg _ (by have := p2pos m; omega), Int.emod_lt_of_pos _ (p2pos m)⟩
theorem win_low (a : E4) (ha : a.ok) (k m : Nat) (hk : k / 64 + 1 < 4) (hm : m ≤ 64) :
    win a.n k m = (a.get (k / 64) / 2 ^ (k % 64) + (a.get (k / 64 + 1) % 2 ^ (k % 64)) * 2 ^ (64 - k % 64)) % 2 ^ m := by
  obtain ⟨⟨a0, a1⟩, ⟨b0, b1⟩, ⟨c0, c1⟩, ⟨d0, d1⟩⟩ := ha
  have ho : k % 64 < 64 := by omega
  unfold win
  obtain ⟨q, hq⟩ : ∃ q, k / 64 = q := ⟨_, rfl⟩
  obtain ⟨off, hf⟩ : ∃ off, k % 64 = off := ⟨_, rfl⟩
  rw [show k = 64 * q + off by omega, show (64 * q + off) / 64 = q by omega, show (64 * q + off) % 64 = off by omega]
  obtain rfl | rfl | rfl : q = 0 ∨ q = 1 ∨ q = 2 := by omega
  · have e : a.n = 0 + 2 ^ (64 * 0) * (a.x0 + 2 ^ 64 * (a.x1 + 2 ^ 64 * (a.x2 + 2 ^ 64 * a.x3))) := by
      simp only [E4.n, Sm.V, Int.reducePow, Nat.reduceMul]; omega
    rw [e, win_gen _ _ _ _ _ _ (by omega) (p2pos _) (by omega), win_red _ _ _ _ _ (by omega) hm]
    rfl
  · have e : a.n = a.x0 + 2 ^ (64 * 1) * (a.x1 + 2 ^ 64 * (a.x2 + 2 ^ 64 * a.x3)) := by
      simp only [E4.n, Sm.V, Int.reducePow, Nat.reduceMul]; omega
    rw [e, win_gen _ _ _ _ _ _ (by omega) (by simp only [Int.reducePow, Nat.reduceMul]; omega) (by omega), win_red _ _ _ _ _ (by omega) hm]
    rfl
  · have e : a.n = (a.x0 + 2 ^ 64 * a.x1) + 2 ^ (64 * 2) * (a.x2 + 2 ^ 64 * (a.x3 + 2 ^ 64 * 0)) := by
      simp only [E4.n, Sm.V, Int.reducePow, Nat.reduceMul]; omega
    rw [e, win_gen _ _ _ _ _ _ (by simp only [Int.reducePow]; omega) (by simp only [Int.reducePow, Nat.reduceMul]; omega) (by omega), win_red _ _ _ _ _ (by omega) hm]
    rfl
theorem win_top (a : E4) (ha : a.ok) (k m : Nat) (hk : k / 64 = 3) :
    win a.n k m = a.get 3 / 2 ^ (k % 64) % 2 ^ m := by
  obtain ⟨⟨a0, a1⟩, ⟨b0, b1⟩, ⟨c0, c1⟩, ⟨d0, d1⟩⟩ := ha
  unfold win
  obtain ⟨off, hf⟩ : ∃ off, k % 64 = off := ⟨_, rfl⟩
  rw [show k = 64 * 3 + off by omega, show (64 * 3 + off) % 64 = off by omega]
  have e : a.n = (a.x0 + 2 ^ 64 * a.x1 + 2 ^ 128 * a.x2) + 2 ^ (64 * 3) * (a.x3 + 2 ^ 64 * 0) := by
    simp only [E4.n, Sm.V, Int.reducePow, Nat.reduceMul]; omega
  rw [e, win_gen _ _ _ _ _ _ (by simp only [Int.reducePow]; omega) (by simp only [Int.reducePow, Nat.reduceMul]; omega) (by omega), Int.mul_zero, Int.add_zero]
  rfl
theorem or_win (x y : Int) (off : Nat) (hx : Sm.Wd x) (ho : off < 64) :
    bits .or .u64 (x / 2 ^ off) (IntKind.u64.wrap (y * 2 ^ (64 - off))) = x / 2 ^ off + (y % 2 ^ off) * 2 ^ (64 - off) ∧
    0 ≤ x / 2 ^ off + (y % 2 ^ off) * 2 ^ (64 - off) ∧ x / 2 ^ off + (y % 2 ^ off) * 2 ^ (64 - off) ≤ 18446744073709551615 := by
  unfold Sm.Wd at *
  have hp := p2pos off
  have hr := p2pos (64 - off)
  have h64 : (2 : Int) ^ off * 2 ^ (64 - off) = 18446744073709551616 := by rw [← Int.pow_add, show off + (64 - off) = 64 by omega]; decide
  have y0 := Int.emod_nonneg y (show (2 : Int) ^ off ≠ 0 by omega)
  have y1 := Int.emod_lt_of_pos y hp
  have x0 : 0 ≤ x / 2 ^ off := Int.ediv_nonneg hx.1 (by omega)
  have x1 : x / 2 ^ off < 2 ^ (64 - off) := by
    apply Int.ediv_lt_of_lt_mul hp
    rw [Int.mul_comm, h64]
    omega
  have e : IntKind.u64.wrap (y * 2 ^ (64 - off)) = (y % 2 ^ off) * 2 ^ (64 - off) := by
    rw [IntKind.wrap_u64, ← h64, Int.mul_comm y, Int.mul_comm (2 ^ off), Int.mul_emod_mul_of_pos _ _ hr, Int.mul_comm]
  have hb : (y % 2 ^ off) * 2 ^ (64 - off) + 2 ^ (64 - off) ≤ 18446744073709551616 := by
    have : (y % 2 ^ off + 1) * 2 ^ (64 - off) ≤ 2 ^ off * 2 ^ (64 - off) := Int.mul_le_mul_of_nonneg_right (by omega) (by omega)
    rw [h64, Int.add_mul, Int.one_mul] at this
    exact this
  have hn : 0 ≤ (y % 2 ^ off) * 2 ^ (64 - off) := Int.mul_nonneg y0 (by omega)
  refine ⟨?_, by omega, by omega⟩
  rw [e]
  by_cases hz : off = 0
  · subst hz
    rw [show y % 2 ^ 0 = 0 by simp, Int.zero_mul]
    have hx' : x / 2 ^ 0 = x := by simp
    rw [hx', u64_or x 0 hx.1 (by omega) (by omega) (by omega)]
    simp
    omega
  · exact or_parts (64 - off) _ _ x0 x1 y0 (by omega) (by omega)
theorem and_pow (u : Int) (m : Nat) (h0 : 0 ≤ u) (h1 : u ≤ 18446744073709551615) (hm : m ≤ 12) : bits .and .u64 u (2 ^ m - 1) = u % 2 ^ m := by
  have hp := p2pos m
  have hl : (2 : Int) ^ m ≤ 2 ^ 12 := by
    have := p2mul m 12 hm
    have := p2pos (12 - m)
    rw [p2mul m 12 hm]
    have h1 := Int.mul_le_mul_of_nonneg_left (c := 2 ^ m) (show (1 : Int) ≤ 2 ^ (12 - m) by omega) (by omega)
    rw [Int.mul_one] at h1
    exact h1
  rw [show (2 : Int) ^ 12 = 4096 from rfl] at hl
  rw [u64_and u (2 ^ m - 1) h0 (by omega) (by omega) (by omega)]
  obtain ⟨U, rfl⟩ := Int.eq_ofNat_of_zero_le h0
  have e : ((2 : Int) ^ m - 1).toNat = 2 ^ m - 1 := by
    have : (2 : Int) ^ m = ((2 ^ m : Nat) : Int) := by simp
    omega
  rw [e, Int.toNat_natCast, Nat.and_two_pow_sub_one_eq_mod]
  simp

end Go.Proofs.YtaejedhdpilhjaaDoor
