import Derived.Test.YtnkaolobcglmlaaGreatDoorRz
import Derived.Test.YtnkaolobcglmlaaGreatDoorSnum
namespace Go.Proofs.YtnkaolobcglmlaaGreatDoor
open Go.RowKit
theorem requal (a b : E4) (w : World) : (Op.equalIn 10000 62 a.v b.v).run Tryz.prog w = .ok (a.same b) w := by
 have hi : Tryz.prog.info? 22 = some (Tryz.prog.info? 22).get! := by kernel_rfl
 have hc : Tryz.prog.cellsOf 22 = 1 := by kernel_rfl
 unfold E4.v
 rw [run_equalIn_array w 9999 _ _ (by kernel_rfl : Tryz.prog.underlying 62 = some (.array 4 22)) hi, hc]
 rw [eqItems_ints w (k := .u64) 9998 (by kernel_rfl) (by kernel_rfl) _ _ (fun i => [a.x0, a.x1, a.x2, a.x3].getD i 0) (fun i => [b.x0, b.x1, b.x2, b.x3].getD i 0)]
 ·rw [show List.range 4 = [0, 1, 2, 3] from rfl]
  simp only [List.all_cons, List.all_nil, Bool.and_true]
  rfl
 ·intro i hi
  have : i < 4 := List.mem_range.1 hi
  match i, this with
  | 0, _ => exact ⟨rfl, rfl⟩
  | 1, _ => exact ⟨rfl, rfl⟩
  | 2, _ => exact ⟨rfl, rfl⟩
  | 3, _ => exact ⟨rfl, rfl⟩
set_option maxHeartbeats 1000000 in
theorem rIsZero_any (a : E4) (w : World) :
  Calls Tryz.prog 45 #[a.v] w fun e w' => e = .returned (.bool (a.same zero4)) ∧ Below w.heap.size w w' := by
 have hq := fun w => requal a zero4 w
 simp only [E4.v] at hq ⊢
 generalize hB : a.same zero4 = B at hq
 simp only [zero4] at hq
 go_enter Tryz.func45, Tryz.ntmps45
 go_wp2_with fail
 refine bodyPost_ret (v := .bool B) (by simp [results, Tryz.results45, go_sem]) rfl ⟨rfl, ?_⟩
 exact bl_alloc w _
end Go.Proofs.YtnkaolobcglmlaaGreatDoor
