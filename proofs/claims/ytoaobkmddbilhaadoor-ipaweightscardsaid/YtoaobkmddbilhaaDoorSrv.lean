import Derived.Test.YtoaobkmddbilhaaDoorSrm
namespace Go.Proofs.YtoaobkmddbilhaaDoor
open Go.RowKit

theorem pow_even (n : Int) (E k : Nat) (h : E / 2 ^ k % 2 = 0) : n ^ (E / 2 ^ k) = n ^ (E / 2 ^ (k + 1)) * n ^ (E / 2 ^ (k + 1)) := by
  rw [← Int.pow_add]
  congr 1
  rw [Nat.pow_succ, ← Nat.div_div_eq_div_mul]
  omega
theorem pow_odd (n : Int) (E k : Nat) (h : E / 2 ^ k % 2 = 1) : n ^ (E / 2 ^ k) = n ^ (E / 2 ^ (k + 1)) * n ^ (E / 2 ^ (k + 1)) * n := by
  rw [← Int.pow_add, ← Int.pow_succ]
  congr 1
  rw [Nat.pow_succ, ← Nat.div_div_eq_div_mul]
  omega
theorem is_mul {r s t : E4} {x y : Int} (hr : r.is x) (hs : s.is y) (h : t.is (r.n * s.n)) : t.is (x * y) := is_of h (mul_cong hr.m hs.m)

theorem rInt1_any (w : World) : Calls Tryd.prog 40 #[.int .u64 1] w fun e w' => e = .returned k1.v ∧ Below w.heap.size w w' := by
  simp only [k1, E4.v]
  go_enter Tryd.func40, Tryd.ntmps40
  go_wp2_with fail
  refine bodyPost_ret (v := .agg #[.int .u64 1, .int .u64 0, .int .u64 0, .int .u64 0]) (by simp [results, Tryd.results40, go_sem]) rfl ⟨rfl, ?_⟩
  exact bl_alloc w _

end Go.Proofs.YtoaobkmddbilhaaDoor
