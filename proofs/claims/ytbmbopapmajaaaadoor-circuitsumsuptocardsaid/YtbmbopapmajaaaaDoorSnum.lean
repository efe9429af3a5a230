import Derived.Test.YtbmbopapmajaaaaDoorSop
namespace Go.Proofs.YtbmbopapmajaaaaDoor
open Go.RowKit

theorem lst_add (n m : Int) : lst ((lst n).n + m) = lst (n + m) := lst_congr (by rw [lst_n, Int.add_emod, emod_emod_L, ← Int.add_emod])
theorem lst_add' (n m : Int) : lst (n + (lst m).n) = lst (n + m) := lst_congr (by rw [lst_n, Int.add_emod, emod_emod_L, ← Int.add_emod])
theorem lst_sub (n m : Int) : lst ((lst n).n - m) = lst (n - m) := lst_congr (by rw [lst_n, Int.sub_emod, emod_emod_L, ← Int.sub_emod])
theorem lst_mul (n m : Int) : lst ((lst n).n * m) = lst (n * m) := lst_congr (by rw [lst_n, Int.mul_emod, emod_emod_L, ← Int.mul_emod])
theorem lst_mul' (n m : Int) : lst (n * (lst m).n) = lst (n * m) := lst_congr (by rw [lst_n, Int.mul_emod, emod_emod_L, ← Int.mul_emod])
theorem lst_n' (n : Int) : lst (lst n).n = lst n := lst_congr (by rw [lst_n, emod_emod_L])
theorem lst_neg (n : Int) : lst (-(lst n).n) = lst (-n) := by
  have h := lst_add' 0 (-(lst n).n)
  refine lst_congr ?_
  rw [lst_n]
  have e1 : -(n % Sm.L) = 0 - n % Sm.L := by omega
  have e2 : -n = 0 - n := by omega
  rw [e1, e2, Int.sub_emod, emod_emod_L, ← Int.sub_emod]
theorem zero_lst : lst 0 = zero4 := (zero_is 0).2 rfl
/-- a contract whose answer is known -/
theorem fix {F : Nat} {args : Array Value} {w : World} {n : Int} {R : E4} (c : Calls Tryd.prog F args w (fun e w' => ∃ r : E4, e = .returned r.v ∧ r.is n ∧ Below w.heap.size w w')) (h : lst n = R) :
    Calls Tryd.prog F args w (fun e w' => e = .returned R.v ∧ Below w.heap.size w w') := by
  refine c.mono fun e w' q => ?_
  obtain ⟨r, q1, q2, q3⟩ := q
  have : r = R := Eq.trans q2 h
  subst this
  exact ⟨q1, q3⟩

def k1 : E4 := ⟨1, 0, 0, 0⟩
def k2 : E4 := ⟨2, 0, 0, 0⟩
def k3 : E4 := ⟨3, 0, 0, 0⟩
def k5 : E4 := ⟨5, 0, 0, 0⟩
def k6 : E4 := ⟨6, 0, 0, 0⟩
theorem lst1 : lst 1 = k1 := int_is 1 (by unfold Sm.Wd; omega)
theorem lst2 : lst 2 = k2 := int_is 2 (by unfold Sm.Wd; omega)
theorem lst3 : lst 3 = k3 := int_is 3 (by unfold Sm.Wd; omega)
theorem lst5 : lst 5 = k5 := int_is 5 (by unfold Sm.Wd; omega)
theorem lst6 : lst 6 = k6 := int_is 6 (by unfold Sm.Wd; omega)
theorem k1n : k1.n = 1 := rfl
theorem k2n : k2.n = 2 := rfl
theorem k3n : k3.n = 3 := rfl
theorem k1ok : k1.ok := by rw [← lst1]; exact lst_ok _
theorem k2ok : k2.ok := by rw [← lst2]; exact lst_ok _
theorem k3ok : k3.ok := by rw [← lst3]; exact lst_ok _
theorem z4ok : zero4.ok := by rw [← zero_lst]; exact lst_ok _
theorem z4n : zero4.n = 0 := rfl
end Go.Proofs.YtbmbopapmajaaaaDoor
