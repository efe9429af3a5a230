import Derived.Test.YtaejdgpffipaeaaGreatDoorSz
import Derived.Deep.MidRow
namespace Go.Proofs.YtaejdgpffipaeaaGreatDoor
open Go.RowKit
def num : List Int → Nat
 | [] => 0
 | z :: zs => z.toNat + 256 * num zs
theorem num_lt : ∀ (zs : List Int), (∀ z ∈ zs, 0 ≤ z ∧ z ≤ 255) → num zs < 256 ^ zs.length
 | [], _ => by simp [num]
 | z :: zs, h => by
  have hz := h z (by simp)
  have ih := num_lt zs (fun y hy => h y (by simp [hy]))
  rw [num, List.length_cons, Nat.pow_succ]
  omega
theorem num_get : ∀ (zs : List Int) (k : Nat), (∀ z ∈ zs, 0 ≤ z ∧ z ≤ 255) → zs.getD k 0 = ((num zs / 256 ^ k % 256 : Nat) : Int)
 | [], k, _ => by simp [num]
 | z :: zs, 0, h => by
  have hz := h z (by simp)
  simp only [List.getD_cons_zero, num, Nat.pow_zero, Nat.div_one]
  omega
 | z :: zs, k + 1, h => by
  have hz := h z (by simp)
  rw [List.getD_cons_succ, num_get zs k (fun y hy => h y (by simp [hy])), num, Nat.pow_succ, Nat.mul_comm (256 ^ k), ← Nat.div_div_eq_div_mul]
  have e3 : (z.toNat + 256 * num zs) / 256 = num zs := by omega
  rw [e3]
theorem or_parts (i : Nat) (h l : Int) (hl0 : 0 ≤ l) (hl : l < 2 ^ i) (hh0 : 0 ≤ h) (hh : h * 2 ^ i < 18446744073709551616) (hi : i ≤ 63) : bits .or .u64 l (h * 2 ^ i) = l + h * 2 ^ i := by
 obtain ⟨H, rfl⟩ := Int.eq_ofNat_of_zero_le hh0
 obtain ⟨L, rfl⟩ := Int.eq_ofNat_of_zero_le hl0
 have e : (H : Int) * 2 ^ i = ((H * 2 ^ i : Nat) : Int) := by simp
 rw [e] at hh ⊢
 have hL : L < 2 ^ i := by
  have e2 : ((2 : Int) ^ i) = ((2 ^ i : Nat) : Int) := by simp
  rw [e2] at hl; omega
 have h64 : 2 ^ i ≤ 2 ^ 63 := Nat.pow_le_pow_right (by omega) hi
 rw [u64_or_nat _ _ (by omega) (by omega), Nat.or_comm]
 have := Nat.shiftLeft_add_eq_or_of_lt hL H
 rw [Nat.shiftLeft_eq] at this
 rw [← this]; omega
def bv (zs : List Int) : Value := .agg (zs.map fun z => Value.int .u8 z).toArray
theorem range_new (w : World) (zs : List Int) (t : TypeId) : (w.alloc (.cells (zs.map fun z => Value.int .u8 z).toArray t)).rangeAt w.heap.size 0 (zs.map fun z => Value.int .u8 z) := fun j v hv => by
 rw [Nat.zero_add, World.cell?_alloc_mark]
 simpa using hv
set_option maxHeartbeats 8000000 in
theorem read_step (N : Int) (k : Nat) (hk : k < 32) :
  (∀ j, j < 4 → j ≠ k / 8 → Sm.lim j (N % 256 ^ (k + 1)) = Sm.lim j (N % 256 ^ k)) ∧ Sm.lim (k / 8) (N % 256 ^ (k + 1)) = Sm.lim (k / 8) (N % 256 ^ k) + N / 256 ^ k % 256 * 2 ^ (8 * (k % 8)) ∧ Sm.lim (k / 8) (N % 256 ^ k) < 2 ^ (8 * (k % 8)) := by
 have hc : k = 0 ∨ k = 1 ∨ k = 2 ∨ k = 3 ∨ k = 4 ∨ k = 5 ∨ k = 6 ∨ k = 7 ∨ k = 8 ∨ k = 9 ∨ k = 10 ∨ k = 11 ∨ k = 12 ∨ k = 13 ∨ k = 14 ∨ k = 15 ∨ k = 16 ∨ k = 17 ∨ k = 18 ∨ k = 19 ∨ k = 20 ∨ k = 21 ∨ k = 22 ∨ k = 23 ∨ k = 24 ∨ k = 25 ∨ k = 26 ∨ k = 27 ∨ k = 28 ∨ k = 29 ∨ k = 30 ∨ k = 31 := by omega
 rcases hc with rfl | rfl | rfl | rfl | rfl | rfl | rfl | rfl | rfl | rfl | rfl | rfl | rfl | rfl | rfl | rfl | rfl | rfl | rfl | rfl | rfl | rfl | rfl | rfl | rfl | rfl | rfl | rfl | rfl | rfl | rfl | rfl
 all_goals
  refine ⟨fun j hj hne => ?_, ?_, ?_⟩
  ·have hj4 : j = 0 ∨ j = 1 ∨ j = 2 ∨ j = 3 := by omega
   rcases hj4 with rfl | rfl | rfl | rfl
   all_goals first
    | exact absurd rfl hne
    | (simp only [Sm.lim, Nat.reduceAdd, Int.reducePow]; omega)
  ·simp only [Sm.lim, Nat.reduceAdd, Nat.reduceDiv, Nat.reduceMod, Nat.reduceMul, Int.reducePow]; omega
  ·simp only [Sm.lim, Nat.reduceDiv, Nat.reduceMod, Nat.reduceMul, Int.reducePow]; omega
end Go.Proofs.YtaejdgpffipaeaaGreatDoor
