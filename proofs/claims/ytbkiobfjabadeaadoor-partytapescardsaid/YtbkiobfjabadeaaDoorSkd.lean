import Derived.Test.YtbkiobfjabadeaaDoorSlm
import Derived.Test.YtbkiobfjabadeaaDoorSrl
import Derived.Test.YtbkiobfjabadeaaDoorSde
namespace Go.Proofs.YtbkiobfjabadeaaDoor
open Go.RowKit

set_option maxHeartbeats 1000000 in
theorem rInt_any (n : Int) (w : World) : Calls Tryd.prog 15 #[.int .u64 n] w fun e w' => e = .returned (⟨n, 0, 0, 0⟩ : E4).v ∧ Below w.heap.size w w' := by
  simp only [E4.v]
  go_enter Tryd.func15, Tryd.ntmps15
  go_wp2_with fail
  refine bodyPost_ret (v := .agg #[.int .u64 n, .int .u64 0, .int .u64 0, .int .u64 0]) (by simp [results, Tryd.results15, go_sem]) rfl ⟨rfl, ?_⟩
  exact bl_alloc w _
end Go.Proofs.YtbkiobfjabadeaaDoor
