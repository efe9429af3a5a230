import Derived.Test.YtgijodenblpbgaaDoorSel
import Derived.Deep.MidRow
namespace Go.Proofs.YtgijodenblpbgaaDoor
open Go.RowKit

/-- byte j of a number -/
def byt (N : Int) (j : Nat) : Int := N / 256 ^ j % 256
def bytes (N : Int) : List Int := (List.range 32).map (byt N)
theorem bytes_len (N : Int) : (bytes N).length = 32 := by simp [bytes]
theorem bytes_get (N : Int) (j : Nat) (h : j < 32) : (bytes N)[j]? = some (byt N j) := by simp [bytes, h]
theorem byt_bd (N : Int) (j : Nat) : 0 ≤ byt N j ∧ byt N j ≤ 255 := by unfold byt; omega

def word64 (N : Int) (q : Nat) : Int := N / 18446744073709551616 ^ q % 18446744073709551616

theorem byt_word (N : Int) (k : Nat) : word64 N (k / 8) / 2 ^ (8 * (k % 8)) % 256 = byt N k := by
  unfold word64 byt
  have e : N / 256 ^ k = N / 18446744073709551616 ^ (k / 8) / 2 ^ (8 * (k % 8)) := by
    rw [Int.ediv_ediv_of_nonneg (Int.le_of_lt (Int.pow_pos (by decide)))]
    congr 1
    rw [show (18446744073709551616 : Int) = 2 ^ 64 from rfl, show (256 : Int) = 2 ^ 8 from rfl, ← Int.pow_mul, ← Int.pow_mul, ← Int.pow_add]
    congr 1; omega
  rw [e]
  generalize N / 18446744073709551616 ^ (k / 8) = M
  have hc : k % 8 = 0 ∨ k % 8 = 1 ∨ k % 8 = 2 ∨ k % 8 = 3 ∨ k % 8 = 4 ∨ k % 8 = 5 ∨ k % 8 = 6 ∨ k % 8 = 7 := by omega
  rcases hc with h | h | h | h | h | h | h | h <;> rw [h] <;> simp <;> omega

/-- or of parts that don't meet -/
theorem or_parts (i : Nat) (h l : Int) (hl0 : 0 ≤ l) (hl : l < 2 ^ i) (hh0 : 0 ≤ h) (hh : h * 2 ^ i < 18446744073709551616) (hi : i ≤ 63) : bits .or .u64 l (h * 2 ^ i) = l + h * 2 ^ i := by
  obtain ⟨H, rfl⟩ := Int.eq_ofNat_of_zero_le hh0
  obtain ⟨L, rfl⟩ := Int.eq_ofNat_of_zero_le hl0
  have e : (H : Int) * 2 ^ i = ((H * 2 ^ i : Nat) : Int) := by simp
  rw [e] at hh ⊢
  have hL : L < 2 ^ i := by
    have e2 : ((2 : Int) ^ i) = ((2 ^ i : Nat) : Int) := by simp
    rw [e2] at hl; omega
  have h64 : 2 ^ i ≤ 2 ^ 63 := Nat.pow_le_pow_right (by omega) hi
  rw [u64_or_nat _ _ (by omega) (by omega), Nat.or_comm]
  have := Nat.shiftLeft_add_eq_or_of_lt hL H
  rw [Nat.shiftLeft_eq] at this
  rw [← this]; omega

theorem words_math (n : Int) (h0 : 0 ≤ n) (h1 : n < 57896044618658097711785492504343953926634992332820282019728792003956564819968) :
    bits .or .u64 (Fm.lim 0 n) (IntKind.u64.wrap (Fm.lim 1 n * 2251799813685248)) = word64 n 0 ∧
    bits .or .u64 (Fm.lim 1 n / 8192) (IntKind.u64.wrap (Fm.lim 2 n * 274877906944)) = word64 n 1 ∧
    bits .or .u64 (Fm.lim 2 n / 67108864) (IntKind.u64.wrap (Fm.lim 3 n * 33554432)) = word64 n 2 ∧
    bits .or .u64 (Fm.lim 3 n / 549755813888) (IntKind.u64.wrap (Fm.lim 4 n * 4096)) = word64 n 3 := by
  have hv := Fm.V_lim n h0 h1
  have b0 := Fm.lim_bd 0 n
  have b1 := Fm.lim_bd 1 n
  have b2 := Fm.lim_bd 2 n
  have b3 := Fm.lim_bd 3 n
  have b4 := Fm.lim_bd 4 n
  generalize Fm.lim 0 n = x0 at *
  generalize Fm.lim 1 n = x1 at *
  generalize Fm.lim 2 n = x2 at *
  generalize Fm.lim 3 n = x3 at *
  generalize Fm.lim 4 n = x4 at *
  unfold Fm.V at hv
  simp only [IntKind.wrap_u64]
  have w0 : x1 * 2251799813685248 % 18446744073709551616 = (x1 % 8192) * 2 ^ 51 := by simp; omega
  have w1 : x2 * 274877906944 % 18446744073709551616 = (x2 % 67108864) * 2 ^ 38 := by simp; omega
  have w2 : x3 * 33554432 % 18446744073709551616 = (x3 % 549755813888) * 2 ^ 25 := by simp; omega
  have w3 : x4 * 4096 % 18446744073709551616 = x4 * 2 ^ 12 := by simp; omega
  rw [w0, w1, w2, w3]
  rw [or_parts 51 _ _ b0.1 (by simp; omega) (by omega) (by simp; omega) (by omega), or_parts 38 _ _ (by omega) (by simp; omega) (by omega) (by simp; omega) (by omega), or_parts 25 _ _ (by omega) (by simp; omega) (by omega) (by simp; omega) (by omega), or_parts 12 _ _ (by omega) (by simp; omega) (by omega) (by simp; omega) (by omega)]
  unfold word64
  refine ⟨?_, ?_, ?_, ?_⟩
  · simp; omega
  · simp; omega
  · simp; omega
  · simp; omega
end Go.Proofs.YtgijodenblpbgaaDoor
