import Derived.Test.YtebmaneogekhjaaGreatDoorRows
import Derived.WalkKit
import Derived.ProofKit
import Derived.OpenShut
namespace Go.Proofs.YtebmaneogekhjaaGreatDoor
open Go.ChangeShapes Go.WideShapes Go.ChangeAt Go.RowKit
theorem mapM_range {β : Type} (f : Nat → Option β) : ∀ (n : Nat) (ys : List β), ys.length = n → (∀ i, i < n → f i = ys[i]?) → (List.range n).mapM f = some ys
 | 0, ys, h, _ => by rw [List.length_eq_zero_iff.1 h]; rfl
 | n + 1, ys, h, hf => by
  have e : ys.take (n + 1) = ys.take n ++ [ys[n]] := List.take_succ_eq_append_getElem (by omega)
  rw [List.take_of_length_le (by omega)] at e
  have ih := mapM_range f n (ys.take n) (by simp; omega) (fun i hi => by rw [hf i (by omega)]; simp [hi])
  have hl := hf n (by omega)
  rw [List.getElem?_eq_getElem (by omega)] at hl
  rw [List.range_succ, List.mapM_append, ih]
  simp only [List.mapM_cons, List.mapM_nil, hl, Option.pure_def, Option.bind_eq_bind, Option.bind_some]
  rw [← e]
section
variable {H : Type} {enc : TypeId × Value → H} {P : Program} {w : World} {base : Nat} {sp : Nat → Bool} {held : Bool} {t e : TypeId} {n : Nat} {k : IntKind}
end
end Go.Proofs.YtebmaneogekhjaaGreatDoor
