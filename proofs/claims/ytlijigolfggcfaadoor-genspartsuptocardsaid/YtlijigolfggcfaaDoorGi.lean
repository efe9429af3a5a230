import Derived.Test.YtlijigolfggcfaaDoorGh
namespace Go.Proofs.YtlijigolfggcfaaDoor
open Go.RowKit
theorem Gs.four (w : World) (t : TypeId) : Gs (w.alloc (.cells #[.int .u64 0, .int .u64 0, .int .u64 0, .int .u64 0] t)) w.heap.size 4 (fun _ => .int .u64 0) :=
  ⟨by simp, fun k hk => by
    rw [cell_of_row _ w.heap.size k _ t (0, 0) (heap_alloc_new w _)]
    match k, hk with
    | 0, _ => rfl | 1, _ => rfl | 2, _ => rfl | 3, _ => rfl, fun k hk => by go_simp⟩
end Go.Proofs.YtlijigolfggcfaaDoor
