import Derived.Test.YtaejedhdpilhjaaDoorSrt
import Derived.Test.YtaejedhdpilhjaaDoorSnum
namespace Go.Proofs.YtaejedhdpilhjaaDoor
open Go.RowKit

/-- the number of 16-bit words -/
def wn : List Int → Int
  | [] => 0
  | x :: l => x + 65536 * wn l
theorem wn_drop (xs : List Int) (k : Nat) (h : k < xs.length) : wn (xs.drop k) = xs.getD k 0 + 65536 * wn (xs.drop (k + 1)) := by
  rw [List.drop_eq_getElem_cons h]
  simp [wn, List.getD, h]
theorem wn_end (xs : List Int) : wn (xs.drop xs.length) = 0 := by simp [wn]
theorem words_next (N x : Int) (o : E4) (h : o.is N) (t : E4) (ht : t.is (65536 * o.n + x)) : t.is (x + 65536 * N) := by
  refine is_of ht ?_
  rw [Int.add_emod, Int.mul_emod, h.m, ← Int.mul_emod, ← Int.add_emod, Int.add_comm]

end Go.Proofs.YtaejedhdpilhjaaDoor
