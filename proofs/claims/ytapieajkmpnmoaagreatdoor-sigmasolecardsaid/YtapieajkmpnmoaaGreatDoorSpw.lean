import Derived.Test.YtapieajkmpnmoaaGreatDoorScl
import Derived.Lib.BitFns
namespace Go.Proofs.YtapieajkmpnmoaaGreatDoor
open Go.RowKit

theorem b8 : ∀ n : Fin 256, n.val < 2 ^ Lib.bitLen n.val ∧ Lib.bitLen n.val ≤ 8 := by decide +kernel
theorem wrap_small (z : Int) (h0 : 0 ≤ z) (h1 : z ≤ 100) : wrap64 z = z := by unfold wrap64; omega

/-- what Len64 answers: enough bits -/
def lenPost (x : Int) (w : World) (e : Ending) (w' : World) : Prop := ∃ c : Nat, e = .returned (.int .i64 c) ∧ x < 2 ^ c ∧ c ≤ 64 ∧ w' = w
theorem len_close (x b : Int) (k : Nat) (w : World) (v : Int) (hb : x / 2 ^ k = b) (h0 : 0 ≤ b) (h1 : b ≤ 255) (hk : k ≤ 56)
    (hv : v = wrap64 (k + wrap64 (Lib.len8 b))) : lenPost x w (.returned (.int .i64 v)) w := by
  rw [Lib.len8_of b h0 h1] at hv
  obtain ⟨B, rfl⟩ := Int.eq_ofNat_of_zero_le h0
  have h := b8 ⟨B, by omega⟩
  simp only [Int.toNat_natCast] at hv
  generalize Lib.bitLen B = n at *
  rw [wrap_small (n : Int) (by omega) (by omega), wrap_small _ (by omega) (by omega)] at hv
  refine ⟨k + n, by rw [hv]; rfl, ?_, by omega, rfl⟩
  have hp : (0 : Int) < 2 ^ k := Int.pow_pos (by decide)
  have e : x < 2 ^ k * (B + 1) := by
    have := Int.emod_add_mul_ediv x (2 ^ k)
    have := Int.emod_lt_of_pos x hp
    rw [hb] at *
    rw [Int.mul_add]
    omega
  have hB : (B : Int) + 1 ≤ 2 ^ n := by
    have h2 : B + 1 ≤ 2 ^ n := h.1
    have : ((B + 1 : Nat) : Int) ≤ ((2 ^ n : Nat) : Int) := Int.ofNat_le.2 h2
    simpa using this
  rw [Int.pow_add]
  exact Int.lt_of_lt_of_le e (Int.mul_le_mul_of_nonneg_left hB (Int.le_of_lt hp))

theorem len_nat {E c : Nat} (h : (E : Int) < 2 ^ c) : E < 2 ^ c := by
  have : (E : Int) < ((2 ^ c : Nat) : Int) := by simpa using h
  exact Int.ofNat_lt.1 this
theorem one_pow (n : Nat) : (1 : Int) ^ n = 1 := Int.one_pow


end Go.Proofs.YtapieajkmpnmoaaGreatDoor
