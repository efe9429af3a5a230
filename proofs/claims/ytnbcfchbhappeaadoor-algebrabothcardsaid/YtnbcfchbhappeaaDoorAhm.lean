import Derived.Test.YtnbcfchbhappeaaDoorAhg
namespace Go.Proofs.YtnbcfchbhappeaaDoor.Al
open Mx
theorem C7 {x : Int} : C 7 x 0 ↔ x % 7 = 0 := ⟨fun h => by have := h.mod; simpa using this, fun h => C.of_mod (by rw [h]; rfl)⟩
theorem pm7 : Pm 7 := by
  refine ⟨fun h => by have := C7.1 h; revert this; decide, fun a ha => ?_⟩
  have h0 : a % 7 ≠ 0 := fun h => ha (C7.2 h)
  have key : ∀ b : Int, a % 7 * b % 7 = 1 → ∃ b, C 7 (a * b) 1 := fun b h => ⟨b, C.of_mod (by rw [Int.mul_emod, ← Int.emod_emod_of_dvd a (Int.dvd_refl 7), ← Int.mul_emod, h]; rfl)⟩
  have h1 : a % 7 = 1 ∨ a % 7 = 2 ∨ a % 7 = 3 ∨ a % 7 = 4 ∨ a % 7 = 5 ∨ a % 7 = 6 := by omega
  rcases h1 with h | h | h | h | h | h
  · exact key 1 (by rw [h]; rfl)
  · exact key 4 (by rw [h]; rfl)
  · exact key 5 (by rw [h]; rfl)
  · exact key 2 (by rw [h]; rfl)
  · exact key 3 (by rw [h]; rfl)
  · exact key 6 (by rw [h]; rfl)
theorem digits_zero : ∀ (n k : Nat), k < 7 ^ n → (∀ i, i < n → k / 7 ^ i % 7 = 0) → k = 0
  | 0, k, hk, _ => by simp at hk; exact hk
  | n + 1, k, hk, h => by
    have h0 := h 0 (by omega)
    have h1 := digits_zero n (k / 7) (by rw [Nat.pow_succ] at hk; omega) (fun i hi => by
      have := h (i + 1) (by omega)
      rwa [Nat.pow_succ, Nat.mul_comm, ← Nat.div_div_eq_div_mul] at this)
    simp at h0
    omega
/-- the number of digits -/
def ko : Nat → (Nat → Nat) → Nat
  | 0, _ => 0
  | n + 1, d => d 0 + 7 * ko n (fun i => d (i + 1))
theorem ko_lt : ∀ (n : Nat) (d : Nat → Nat), (∀ i, d i < 7) → ko n d < 7 ^ n
  | 0, _, _ => by simp [ko]
  | n + 1, d, h => by
    have h0 := h 0
    have h1 := ko_lt n (fun i => d (i + 1)) (fun i => h (i + 1))
    simp only [ko, Nat.pow_succ]
    omega
theorem ko_digit : ∀ (n : Nat) (d : Nat → Nat), (∀ i, d i < 7) → ∀ i, i < n → ko n d / 7 ^ i % 7 = d i
  | 0, _, _, _, hi => absurd hi (by omega)
  | n + 1, d, h, i, hi => by
    have h0 := h 0
    cases i with
    | zero => simp only [ko, Nat.pow_zero, Nat.div_one]; omega
    | succ i =>
      rw [Nat.pow_succ, Nat.mul_comm, ← Nat.div_div_eq_div_mul, show ko (n + 1) d / 7 = ko n (fun i => d (i + 1)) by simp only [ko]; omega]
      exact ko_digit n (fun i => d (i + 1)) (fun i => h (i + 1)) i (by omega)
theorem hs_dep {n : Nat} {A : Nat → Nat → Int} : (∃ k, 1 ≤ k ∧ k < 7 ^ n ∧ ∀ j, j < n → hs n A k j % 7 = 0) ↔ dep 7 n n A := by
  constructor
  · rintro ⟨k, h1, h2, h3⟩
    refine ⟨fun i => ((k / 7 ^ i % 7 : Nat) : Int), ?_, fun j hj => ?_⟩
    · apply Classical.byContradiction
      intro hno
      have := digits_zero n k h2 (fun i hi => by
        have hc : C 7 ((k / 7 ^ i % 7 : Nat) : Int) 0 := Classical.byContradiction fun h => hno ⟨i, hi, h⟩
        have := C7.1 hc
        omega)
      omega
    · refine C.trans (sm_C fun i hi => ?_) (C7.2 (h3 j hj))
      exact C.rfl.mul (C.emod 7 (A i j)).symm
  · rintro ⟨c, ⟨i, hi, hci⟩, hc⟩
    have hd : ∀ i, (c i % 7).toNat < 7 := fun i => by have := Int.emod_lt_of_pos (c i) (show (0 : Int) < 7 by decide); have := Int.emod_nonneg (c i) (show (7 : Int) ≠ 0 by decide); omega
    have hk := ko_digit n (fun i => (c i % 7).toNat) hd
    refine ⟨ko n (fun i => (c i % 7).toNat), ?_, ko_lt n _ hd, fun j hj => ?_⟩
    · apply Classical.byContradiction
      intro h0
      have h1 : ko n (fun i => (c i % 7).toNat) = 0 := by omega
      have h2 := hk i hi
      rw [h1] at h2
      simp at h2
      have := Int.emod_nonneg (c i) (show (7 : Int) ≠ 0 by decide)
      exact hci (C7.2 (by omega))
    · apply C7.1
      refine C.trans (sm_C fun i hi => ?_) (hc j hj)
      rw [hk i hi]
      have := Int.emod_nonneg (c i) (show (7 : Int) ≠ 0 by decide)
      rw [Int.toNat_of_nonneg this]
      exact (C.emod 7 (c i)).mul (C.emod 7 (A i j))
theorem hg_dep {n : Nat} {A : Nat → Nat → Int} (h : dep 7 n n A) : hg n A = true := hg_yes (hs_dep.2 h)
theorem hg_free {n : Nat} {A : Nat → Nat → Int} (h : ¬ dep 7 n n A) : hg n A = false := hg_no (fun k => h (hs_dep.1 k))
end Go.Proofs.YtnbcfchbhappeaaDoor.Al
