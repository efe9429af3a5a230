import Derived.Test.YtaejedhdpilhjaaDoorSrd2
namespace Go.Proofs.YtaejedhdpilhjaaDoor
open Go.RowKit

theorem pow_256 {e : Nat} (h : 8 ≤ e) : (18446744073709551616 : Int) ≤ 256 ^ e := by
  have h1 : (256 : Nat) ^ 8 ≤ 256 ^ e := Nat.pow_le_pow_right (by decide) h
  have h2 := Int.ofNat_le.2 h1
  simpa using h2
/-- limb j of N, the bytes below k not yet read -/
def lm (j : Nat) (N : Int) (k : Nat) : Int := Sm.lim j N / 256 ^ (k - 8 * j)
theorem lm_byte (N : Int) (k : Nat) (hk : k < 32) : Sm.lim (k / 8) N / 256 ^ (k % 8) % 256 = N / 256 ^ k % 256 := by
  have hc : k = 0 ∨ k = 1 ∨ k = 2 ∨ k = 3 ∨ k = 4 ∨ k = 5 ∨ k = 6 ∨ k = 7 ∨ k = 8 ∨ k = 9 ∨ k = 10 ∨ k = 11 ∨ k = 12 ∨ k = 13 ∨ k = 14 ∨ k = 15 ∨ k = 16 ∨ k = 17 ∨ k = 18 ∨ k = 19 ∨ k = 20 ∨ k = 21 ∨ k = 22 ∨ k = 23 ∨ k = 24 ∨ k = 25 ∨ k = 26 ∨ k = 27 ∨ k = 28 ∨ k = 29 ∨ k = 30 ∨ k = 31 := by omega
  rcases hc with rfl | rfl | rfl | rfl | rfl | rfl | rfl | rfl | rfl | rfl | rfl | rfl | rfl | rfl | rfl | rfl | rfl | rfl | rfl | rfl | rfl | rfl | rfl | rfl | rfl | rfl | rfl | rfl | rfl | rfl | rfl | rfl
  all_goals
    simp only [Nat.reduceDiv, Nat.reduceMod, Sm.lim, Int.reducePow]
    omega
theorem lm_other (N : Int) (k j : Nat) (h : j ≠ k / 8) : lm j N k = lm j N (k + 1) := by
  unfold lm
  have hw := Sm.lim_wd j N
  unfold Sm.Wd at hw
  by_cases hlt : k / 8 < j
  · rw [show k - 8 * j = 0 by omega, show k + 1 - 8 * j = 0 by omega]
  · have big : ∀ e, 8 ≤ e → Sm.lim j N / 256 ^ e = 0 := fun e he => by
      refine Int.ediv_eq_zero_of_lt hw.1 (Int.lt_of_lt_of_le hw.2 ?_)
      exact pow_256 he
    rw [big _ (by omega), big _ (by omega)]
theorem lm_step (N : Int) (k : Nat) (hk : k < 32) : lm (k / 8) N k = N / 256 ^ k % 256 + lm (k / 8) N (k + 1) * 256 ∧ 0 ≤ lm (k / 8) N (k + 1) ∧ lm (k / 8) N (k + 1) * 256 ≤ 18446744073709551615 := by
  have hw := Sm.lim_wd (k / 8) N
  unfold Sm.Wd at hw
  have hb := lm_byte N k hk
  unfold lm
  rw [show k - 8 * (k / 8) = k % 8 by omega, show k + 1 - 8 * (k / 8) = k % 8 + 1 by omega, Int.pow_succ, ← Int.ediv_ediv_of_nonneg (Int.le_of_lt (Int.pow_pos (by decide)))]
  have h0 : 0 ≤ Sm.lim (k / 8) N / 256 ^ (k % 8) := Int.ediv_nonneg hw.1 (Int.le_of_lt (Int.pow_pos (by decide)))
  have h1 := Int.ediv_le_self (256 ^ (k % 8)) hw.1
  generalize Sm.lim (k / 8) N / 256 ^ (k % 8) = X at *
  omega
theorem or_byte (x b : Int) (h0 : 0 ≤ x) (h1 : x * 256 ≤ 18446744073709551615) (b0 : 0 ≤ b) (b1 : b ≤ 255) : bits .or .u64 (x * 256) b = b + x * 256 := by
  rw [u64_or _ _ (by omega) (by omega) (by omega) (by omega), Nat.or_comm]
  have h := or_parts 8 x b b0 (by simp only [Int.reducePow]; omega) h0 (by simp only [Int.reducePow]; omega) (by omega)
  simp only [Int.reducePow] at h
  rw [u64_or _ _ (by omega) (by omega) (by omega) (by omega)] at h
  exact h
theorem lm_start (N : Int) (j : Nat) (hj : j < 4) : lm j N 32 = 0 := by
  unfold lm
  have hw := Sm.lim_wd j N
  unfold Sm.Wd at hw
  refine Int.ediv_eq_zero_of_lt hw.1 (Int.lt_of_lt_of_le hw.2 ?_)
  exact pow_256 (by omega)
theorem lm_end (N : Int) (j : Nat) : lm j N 0 = Sm.lim j N := by
  unfold lm
  rw [Nat.zero_sub, Int.pow_zero, Int.ediv_one]

/-- while the limbs are read, the highest byte first -/
structure LmW (w0 : World) (N : Int) (cs : List Value) (k : Nat) (w : World) : Prop where
  c : ∀ j, j < 4 → w.cell? ⟨w0.heap.size + 1 + 1, j, none⟩ = some (.int .u64 (lm j N k))
  f : ∀ j, j < 4 → w.frozen? ⟨w0.heap.size + 1 + 1, j, none⟩ = false
  rs : Blc w (w0.heap.size + 1) zero4
  rf : Wrt w (w0.heap.size + 1)
  rg : w.rangeAt w0.heap.size 0 cs
  bel : Below w0.heap.size w0 w
theorem LmW.drew {w0 : World} {N : Int} {cs : List Value} {k : Nat} {w : World} (h : LmW w0 N cs k w) : LmW w0 N cs k w.drew := by
  have hb : Below w.heap.size w w.drew := (Below.refl _ _).drew
  have hl := World.block_lt_of_cell? w ⟨w0.heap.size + 1 + 1, 0, none⟩ (h.c 0 (by omega))
  exact ⟨fun j hj => cell_keep (h.c j hj) hb, fun j hj => ((bcell hb).2 _ _ hl).trans (h.f j hj), h.rs.keep hb, h.rf.keep h.rs.lt hb, range_keep h.rg hb, bl_trans h.bel hb⟩
theorem LmW.step {w0 : World} {N : Int} {cs : List Value} {k : Nat} {w : World} (h : LmW w0 N cs (k + 1) w) (hk : k < 32) :
    LmW w0 N cs k (w.setCell ⟨w0.heap.size + 1 + 1, k / 8, none⟩ (.int .u64 (lm (k / 8) N k))) := by
  have hq : k / 8 < 4 := by omega
  refine ⟨fun j hj => ?_, fun j hj => by have := h.f j hj; go_simp, ?_, ?_, fun j v hv => ?_, h.bel.setCell (by show w0.heap.size ≤ w0.heap.size + 1 + 1; omega) _⟩
  · by_cases hjk : j = k / 8
    · subst hjk
      have hb := h.c (k / 8) hj
      go_simp
    · rw [World.cell?_setCell_other w _ _ _ (by intro e; exact hjk (congrArg Addr.off e).symm), h.c j hj, lm_other N k j hjk]
  · obtain ⟨a0, a1, a2, a3⟩ := h.rs
    exact ⟨(World.cell?_setCell_far w _ _ _ (by show w0.heap.size + 1 + 1 ≠ w0.heap.size + 1; omega)).trans a0, (World.cell?_setCell_far w _ _ _ (by show w0.heap.size + 1 + 1 ≠ w0.heap.size + 1; omega)).trans a1, (World.cell?_setCell_far w _ _ _ (by show w0.heap.size + 1 + 1 ≠ w0.heap.size + 1; omega)).trans a2, (World.cell?_setCell_far w _ _ _ (by show w0.heap.size + 1 + 1 ≠ w0.heap.size + 1; omega)).trans a3⟩
  · obtain ⟨a0, a1, a2, a3⟩ := h.rf
    exact ⟨by go_simp, by go_simp, by go_simp, by go_simp⟩
  · exact (World.cell?_setCell_far w _ _ _ (by show w0.heap.size + 1 + 1 ≠ w0.heap.size; omega)).trans (h.rg j v hv)

end Go.Proofs.YtaejedhdpilhjaaDoor
