import Derived.Test.YtebmaneogekhjaaGreatDoorDjz
namespace Go.Proofs.YtebmaneogekhjaaGreatDoor
open Go.RowKit
set_option linter.unusedVariables false
set_option linter.unusedSimpArgs false
open Cm (Wr Tm co bf Ls lf ins Eqm)
namespace Ci
set_option maxRecDepth 100000
set_option maxHeartbeats 8000000
theorem names_law (x : World) (hT : Tb x) : Calls Tryz.prog 3 #[] x fun e w' => e = .returned (.bool true) ∧ Below x.heap.size x w' := by
  have C0 := hidden (live_any x hT)
  clear hT
  go_enter Tryz.func3, Tryz.ntmps3
  go_wp2_with (go_at_call 6; refine C0.out.mono ?_; rintro e w1 ⟨rfl, hb⟩; have B1 := hidden hb; clear hb C0)
  exact bodyPost_ret (v := .bool true) (by simp [results, Tryz.results3, go_sem]) rfl ⟨rfl, B1.out⟩
end Ci
end Go.Proofs.YtebmaneogekhjaaGreatDoor
