import Derived.Test.YtgijodenblpbgaaDoorNum
namespace Go.Proofs.YtgijodenblpbgaaDoor
open Go.RowKit

theorem fix {F : Nat} {args : Array Value} {w : World} {n : Int} {R : E5} (c : Calls Tryd.prog F args w (fun e w' => ∃ r : E5, e = .returned r.v ∧ r.is n ∧ Below w.heap.size w w')) (h : lst n = R) :
    Calls Tryd.prog F args w (fun e w' => e = .returned R.v ∧ Below w.heap.size w w') := by
  refine c.mono fun e w' q => ?_
  obtain ⟨r, q1, q2, q3⟩ := q
  have : r = R := Eq.trans q2 h
  subst this
  exact ⟨q1, q3⟩
theorem fixp {F : Nat} {args : Array Value} {w : World} {a R : E5} {k : Nat} (c : Calls Tryd.prog F args w (fun e w' => ∃ r : E5, e = .returned r.v ∧ r.pw a k ∧ Below w.heap.size w w')) (h : lst (a.n ^ k) = R) :
    Calls Tryd.prog F args w (fun e w' => e = .returned R.v ∧ Below w.heap.size w w') := fix c h

def k2 : E5 := ⟨2, 0, 0, 0, 0⟩
def k3 : E5 := ⟨3, 0, 0, 0, 0⟩
def k5 : E5 := ⟨5, 0, 0, 0, 0⟩
def k6 : E5 := ⟨6, 0, 0, 0, 0⟩
theorem lst2 : lst 2 = k2 := lst_small 2 ⟨by decide, by decide⟩ (by decide)
theorem lst3 : lst 3 = k3 := lst_small 3 ⟨by decide, by decide⟩ (by decide)
theorem lst5 : lst 5 = k5 := lst_small 5 ⟨by decide, by decide⟩ (by decide)
theorem lst6 : lst 6 = k6 := lst_small 6 ⟨by decide, by decide⟩ (by decide)
theorem k2n : k2.n = 2 := rfl
theorem k3n : k3.n = 3 := rfl
theorem k6n : k6.n = 6 := rfl
theorem k2ok : k2.ok := by rw [← lst2]; exact lst_ok _
theorem k3ok : k3.ok := by rw [← lst3]; exact lst_ok _
theorem k6ok : k6.ok := by rw [← lst6]; exact lst_ok _

theorem six_third (t : E5) (h : t = lst (k3.n ^ 57896044618658097711785492504343953926634992332820282019728792003956564819947)) : lst (k6.n * t.n) = k2 := by
  rw [h, lst_mul', k6n, k3n, ← lst2]
  have e1 : (6 : Int) * 3 ^ 57896044618658097711785492504343953926634992332820282019728792003956564819947 = 2 * (3 * 3 ^ 57896044618658097711785492504343953926634992332820282019728792003956564819947) := by
    rw [← Int.mul_assoc]; rfl
  rw [e1]
  refine lst_congr ?_
  rw [Int.mul_emod, inv_mul 3 (by decide)]
  rfl

end Go.Proofs.YtgijodenblpbgaaDoor
