import Derived.Test.YtljmgfclhbadjaaGreatDoorSop
import Derived.Lib.BitFns
import Derived.Test.YtljmgfclhbadjaaGreatDoorNtl
namespace Go.Proofs.YtljmgfclhbadjaaGreatDoor
open Go.RowKit
theorem L_nat : ((7237005577332262213973186563042994240857116359379907606001950938285454250989 : Nat) : Int) = Sm.L := rfl
theorem lst_add' (n m : Int) : lst (n + (lst m).n) = lst (n + m) := lst_congr (by rw [lst_n, Int.add_emod, emod_emod_L, ← Int.add_emod])
theorem zero_lst : lst 0 = zero4 := (zero_is 0).2 rfl
theorem fix {F : Nat} {args : Array Value} {w : World} {n : Int} {R : E4} (c : Calls Tryz.prog F args w (fun e w' => ∃ r : E4, e = .returned r.v ∧ r.is n ∧ Below w.heap.size w w')) (h : lst n = R) :
  Calls Tryz.prog F args w (fun e w' => e = .returned R.v ∧ Below w.heap.size w w') := by
 refine c.mono fun e w' q => ?_
 obtain ⟨r, q1, q2, q3⟩ := q
 have : r = R := Eq.trans q2 h
 subst this
 exact ⟨q1, q3⟩
def k1 : E4 := ⟨1, 0, 0, 0⟩
def k2 : E4 := ⟨2, 0, 0, 0⟩
def k3 : E4 := ⟨3, 0, 0, 0⟩
def k5 : E4 := ⟨5, 0, 0, 0⟩
def k6 : E4 := ⟨6, 0, 0, 0⟩
theorem lst1 : lst 1 = k1 := int_is 1 (by unfold Sm.Wd; omega)
theorem lst2 : lst 2 = k2 := int_is 2 (by unfold Sm.Wd; omega)
theorem lst3 : lst 3 = k3 := int_is 3 (by unfold Sm.Wd; omega)
theorem k2n : k2.n = 2 := rfl
end Go.Proofs.YtljmgfclhbadjaaGreatDoor
