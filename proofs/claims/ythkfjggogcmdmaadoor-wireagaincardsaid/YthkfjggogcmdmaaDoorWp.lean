import Derived.Test.YthkfjggogcmdmaaDoorWn
import Derived.ScopeJumps
import Derived.WalkMore
namespace Go.Proofs.YthkfjggogcmdmaaDoor.Tr
open Go.RowKit
theorem and127 (y : UInt8) : bits .and .u8 (y.toNat : Int) 127 = ((y.toNat % 128 : Nat) : Int) := by
  have : ∀ n : Fin 256, bits .and .u8 (n.val : Int) 127 = ((n.val % 128 : Nat) : Int) := by decide +kernel
  exact this ⟨y.toNat, y.toNat_lt⟩
theorem or_add (acc x k : Nat) (ha : acc < 2 ^ (7 * k)) (hx : x * 2 ^ (7 * k) < 2 ^ 64) (hk : k ≤ 9) : bits .or .u64 (acc : Int) ((x * 2 ^ (7 * k) : Nat) : Int) = ((acc + x * 2 ^ (7 * k) : Nat) : Int) := by
  have h64 : 2 ^ (7 * k) ≤ 2 ^ 63 := Nat.pow_le_pow_right (by omega) (by omega)
  have h1 := u64_or acc (x * 2 ^ (7 * k)) (by omega) hx
  have h2 : acc ||| x * 2 ^ (7 * k) = acc + x * 2 ^ (7 * k) := by
    have := Nat.shiftLeft_add_eq_or_of_lt ha x
    rw [Nat.shiftLeft_eq] at this
    rw [Nat.or_comm, ← this]
    omega
  rw [← h2, ← h1]
  rfl
theorem nm_of {bs : List UInt8} {most : Nat} {x : Nat × Nat × Nat} (h : rd 0 0 bs = x) : nm bs most = if x.2.2 = 0 ∧ most < x.1 then (0, 0, 102) else x := by
  unfold nm
  rw [h]
end Go.Proofs.YthkfjggogcmdmaaDoor.Tr
