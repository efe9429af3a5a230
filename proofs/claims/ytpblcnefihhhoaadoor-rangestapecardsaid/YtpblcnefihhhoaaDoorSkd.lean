import Derived.Test.YtpblcnefihhhoaaDoorSlm
import Derived.Test.YtpblcnefihhhoaaDoorSrl
import Derived.Test.YtpblcnefihhhoaaDoorSde
namespace Go.Proofs.YtpblcnefihhhoaaDoor
open Go.RowKit

set_option maxHeartbeats 1000000 in
theorem rInt_any (n : Int) (w : World) : Calls Tryd.prog 27 #[.int .u64 n] w fun e w' => e = .returned (⟨n, 0, 0, 0⟩ : E4).v ∧ Below w.heap.size w w' := by
  simp only [E4.v]
  go_enter Tryd.func27, Tryd.ntmps27
  go_wp2_with fail
  refine bodyPost_ret (v := .agg #[.int .u64 n, .int .u64 0, .int .u64 0, .int .u64 0]) (by simp [results, Tryd.results27, go_sem]) rfl ⟨rfl, ?_⟩
  exact bl_alloc w _
end Go.Proofs.YtpblcnefihhhoaaDoor
