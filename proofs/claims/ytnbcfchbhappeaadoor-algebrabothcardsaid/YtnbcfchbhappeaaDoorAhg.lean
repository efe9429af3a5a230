import Derived.Test.YtnbcfchbhappeaaDoorAsv
import Derived.Test.YtnbcfchbhappeaaDoorMx
namespace Go.Proofs.YtnbcfchbhappeaaDoor.Al
open Go.RowKit
/-- rows of elements modulo 7 -/
structure Mt (w : World) (B o n : Nat) (b f : Nat → Nat) (c : Nat → Nat) (A : Nat → Nat → Int) : Prop where
  row : ∀ i, i < n → w.cell? ⟨B, o + i, none⟩ = some (.slice (some ⟨b i, f i, none⟩) n (c i))
  el : ∀ i j, i < n → j < n → w.cell? ⟨b i, f i + j, none⟩ = some (.int .i64 (A i j))
theorem Mt.keep {w w' : World} {B o n : Nat} {b f c : Nat → Nat} {A : Nat → Nat → Int} (h : Mt w B o n b f c A) (hb : Below w.heap.size w w') : Mt w' B o n b f c A :=
  ⟨fun i hi => cell_keep (h.row i hi) hb, fun i j hi hj => cell_keep (h.el i j hi hj) hb⟩
/-- the combination number k of the rows, at a column -/
def hs (m : Nat) (A : Nat → Nat → Int) (k j : Nat) : Int := Mx.sm m (fun i => ((k / 7 ^ i % 7 : Nat) : Int) * (A i j % 7))
theorem hs_bd (m : Nat) (A : Nat → Nat → Int) (k j : Nat) : 0 ≤ hs m A k j ∧ hs m A k j ≤ 36 * m := by
  induction m with
  | zero => exact ⟨Int.le_refl _, Int.le_refl _⟩
  | succ m ih =>
    have e : hs (m + 1) A k j = hs m A k j + ((k / 7 ^ m % 7 : Nat) : Int) * (A m j % 7) := rfl
    have h1 := Int.emod_nonneg (A m j) (show (7 : Int) ≠ 0 by decide)
    have h2 := Int.emod_lt_of_pos (A m j) (show (0 : Int) < 7 by decide)
    have h3 : k / 7 ^ m % 7 < 7 := Nat.mod_lt _ (by decide)
    have h4 : 0 ≤ ((k / 7 ^ m % 7 : Nat) : Int) * (A m j % 7) := Int.mul_nonneg (by omega) h1
    have h5 : ((k / 7 ^ m % 7 : Nat) : Int) * (A m j % 7) ≤ 6 * 6 := Int.mul_le_mul (by omega) (by omega) h1 (by decide)
    rw [e]
    omega
/-- does some combination of the rows vanish? -/
noncomputable def hg (n : Nat) (A : Nat → Nat → Int) : Bool := @decide (∃ k, 1 ≤ k ∧ k < 7 ^ n ∧ ∀ j, j < n → hs n A k j % 7 = 0) (Classical.propDecidable _)
theorem hg_yes {n : Nat} {A : Nat → Nat → Int} (h : ∃ k, 1 ≤ k ∧ k < 7 ^ n ∧ ∀ j, j < n → hs n A k j % 7 = 0) : hg n A = true := @decide_eq_true _ (Classical.propDecidable _) h
theorem hg_no {n : Nat} {A : Nat → Nat → Int} (h : ¬ ∃ k, 1 ≤ k ∧ k < 7 ^ n ∧ ∀ j, j < n → hs n A k j % 7 = 0) : hg n A = false := @decide_eq_false _ (Classical.propDecidable _) h
end Go.Proofs.YtnbcfchbhappeaaDoor.Al
