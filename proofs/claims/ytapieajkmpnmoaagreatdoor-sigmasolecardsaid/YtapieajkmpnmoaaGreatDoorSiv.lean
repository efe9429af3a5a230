import Derived.Test.YtapieajkmpnmoaaGreatDoorSpw
namespace Go.Proofs.YtapieajkmpnmoaaGreatDoor
open Go.RowKit

/-- l - 2 -/
def eE : E4 := ⟨6346243789798364139, 1503914060200516822, 0, 1152921504606846976⟩
def eN : Nat → Nat
  | 0 => 6346243789798364139
  | 1 => 1503914060200516822
  | 2 => 0
  | _ => 1152921504606846976
theorem eE_get (k : Nat) : eE.get k = (eN k : Int) := by
  unfold E4.get eN eE; split <;> simp_all
theorem eN_lt (k : Nat) : eN k < 2 ^ 64 := by
  unfold eN; split <;> decide
/-- the exponent's upper k limbs -/
def ex : Nat → Nat
  | 0 => 0
  | k + 1 => ex k * 2 ^ 64 + eN (3 - k)
theorem ex4 : ex 4 = 7237005577332262213973186563042994240857116359379907606001950938285454250987 := by decide +kernel
theorem ex_next (n : Int) (k : Nat) : (n ^ ex k) ^ 2 ^ 64 * n ^ eN (3 - k) * R = n ^ ex (k + 1) * R := by
  rw [← Int.pow_mul, ← Int.pow_add]; rfl

end Go.Proofs.YtapieajkmpnmoaaGreatDoor
