import Derived.Test.YtaejedhdpilhjaaDoorStp
import Derived.Test.YtaejedhdpilhjaaDoorSkw
namespace Go.Proofs.YtaejedhdpilhjaaDoor
open Go.RowKit

theorem num_appT : ∀ (us vs : List Int), num (us ++ vs) = num us + 256 ^ us.length * num vs
  | [], vs => by simp [num]
  | u :: us, vs => by
    simp only [List.cons_append, num, num_appT us vs, List.length_cons, Nat.pow_succ]
    rw [Nat.mul_add]
    generalize 256 ^ us.length = P
    rw [show P * 256 * num vs = 256 * (P * num vs) by rw [Nat.mul_comm P, Nat.mul_assoc]]
    omega
/-- 64 bytes from a place on -/
def b64 (f : Nat → Int) (o : Nat) : List Int := b32 f o ++ b32 f (o + 32)
theorem b64_len (f : Nat → Int) (o : Nat) : (b64 f o).length = 64 := by simp [b64, b32_len]
theorem tp_64 (f : Nat → Int) (i : Nat) : tp f i = lst (num (b64 f (64 * i))) := by
  unfold tp b64
  rw [num_appT, b32_len]
  rw [Int.natCast_add, Int.natCast_mul, Int.mul_comm ((256 ^ 32 : Nat) : Int)]
  rfl
end Go.Proofs.YtaejedhdpilhjaaDoor
