import Derived.Test.YtbkiobfjabadeaaDoorSrf
import Derived.Test.YtbkiobfjabadeaaDoorSnum
import Derived.Test.YtbkiobfjabadeaaDoorSrd2
namespace Go.Proofs.YtbkiobfjabadeaaDoor
open Go.RowKit

theorem requal (a b : E4) (w : World) : (Op.equalIn 10000 33 a.v b.v).run Tryd.prog w = .ok (a.same b) w := by
  have hi : Tryd.prog.info? 26 = some (Tryd.prog.info? 26).get! := by kernel_rfl
  have hc : Tryd.prog.cellsOf 26 = 1 := by kernel_rfl
  unfold E4.v
  rw [run_equalIn_array w 9999 _ _ (by kernel_rfl : Tryd.prog.underlying 33 = some (.array 4 26)) hi, hc]
  rw [eqItems_ints w (k := .u64) 9998 (by kernel_rfl) (by kernel_rfl) _ _ (fun i => [a.x0, a.x1, a.x2, a.x3].getD i 0) (fun i => [b.x0, b.x1, b.x2, b.x3].getD i 0)]
  · rw [show List.range 4 = [0, 1, 2, 3] from rfl]
    simp only [List.all_cons, List.all_nil, Bool.and_true]
    rfl
  · intro i hi
    have : i < 4 := List.mem_range.1 hi
    match i, this with
    | 0, _ => exact ⟨rfl, rfl⟩
    | 1, _ => exact ⟨rfl, rfl⟩
    | 2, _ => exact ⟨rfl, rfl⟩
    | 3, _ => exact ⟨rfl, rfl⟩

end Go.Proofs.YtbkiobfjabadeaaDoor
