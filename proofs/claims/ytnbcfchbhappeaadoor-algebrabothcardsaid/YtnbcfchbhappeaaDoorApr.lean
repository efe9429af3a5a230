import Derived.Test.YtnbcfchbhappeaaDoorAsm
import Derived.Test.YtnbcfchbhappeaaDoorMx
namespace Go.Proofs.YtnbcfchbhappeaaDoor.Al
open Go.RowKit
/-- a pair, as a value -/
def pv (a b : Int) : Value := .agg #[.int .i64 a, .int .i64 b]
theorem tm_bd (x m : Int) (hm : 0 < m) : -m < x.tmod m ∧ x.tmod m < m := ⟨by have := Int.lt_tmod_of_pos x hm; omega, Int.tmod_lt_of_pos x hm⟩
theorem tm_C (x m : Int) : Mx.C m (x.tmod m) x := ⟨-x.tdiv m, by have := Int.tmod_add_mul_tdiv x m; grind⟩
theorem tm_wrap (x m : Int) (hm : 0 < m) (h9 : m ≤ 1000000) : IntKind.i64.wrap (x.tmod m) = x.tmod m := IntWalk.i64_in _ (by have := tm_bd x m hm; omega)
theorem mul_bd {x y m : Int} (hx : -m < x ∧ x < m) (hy : -m < y ∧ y < m) (h9 : m ≤ 1000) : -1000000 ≤ x * y ∧ x * y ≤ 1000000 := by
  have h1 : x.natAbs ≤ 1000 := by omega
  have h2 : y.natAbs ≤ 1000 := by omega
  have h3 : x.natAbs * y.natAbs ≤ 1000 * 1000 := Nat.mul_le_mul h1 h2
  rw [← Int.natAbs_mul] at h3
  omega
end Go.Proofs.YtnbcfchbhappeaaDoor.Al
