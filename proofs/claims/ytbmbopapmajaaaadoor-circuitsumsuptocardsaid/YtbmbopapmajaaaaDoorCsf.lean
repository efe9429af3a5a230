import Derived.Test.YtbmbopapmajaaaaDoorCse
namespace Go.Proofs.YtbmbopapmajaaaaDoor
open Go.RowKit
set_option linter.unusedVariables false
set_option linter.unusedSimpArgs false
open Cm (Wr Tm co bf Ls lf ins Eqm)
namespace Ci
set_option maxRecDepth 100000
set_option maxHeartbeats 4000000
theorem dConst_any (kn : Int) (w : World) :
    Calls Tryd.prog 14 #[.agg #[.int .u64 (lst kn).x0, .int .u64 (lst kn).x1, .int .u64 (lst kn).x2, .int .u64 (lst kn).x3]] w fun e w' => ∃ v, e = .returned v ∧ Dl w (lf Sm.L [((1, 0), kn)]) v w' := by
  have HT : tls [((1, 0), kn)] = [.int .i64 1, .int .i64 0, .int .u64 (lst kn).x0, .int .u64 (lst kn).x1, .int .u64 (lst kn).x2, .int .u64 (lst kn).x3] := by rw [tls_map]; simp [tmOf, Trm.cs]
  obtain ⟨Z, hZ⟩ : ∃ Z, lf Sm.L [((1, 0), kn)] = Z := ⟨_, rfl⟩
  obtain ⟨k, hk⟩ : ∃ k, lst kn = k := ⟨_, rfl⟩
  rw [hk] at HT
  rw [hk, hZ]
  have hs : (w.alloc (.cells #[.int .u64 k.x0, .int .u64 k.x1, .int .u64 k.x2, .int .u64 k.x3] 41)).heap.size = w.heap.size + 1 := by simp
  have ho0 := own_new6 (base := 0) (w.alloc (.cells #[.int .u64 k.x0, .int .u64 k.x1, .int .u64 k.x2, .int .u64 k.x3] 41)) [.int .i64 1, .int .i64 0, .int .u64 k.x0, .int .u64 k.x1, .int .u64 k.x2, .int .u64 k.x3] rfl (Nat.zero_le _)
  rw [hs] at ho0
  have ho : ((w.alloc (.cells #[.int .u64 k.x0, .int .u64 k.x1, .int .u64 k.x2, .int .u64 k.x3] 41)).alloc (.cells #[.int .i64 1, .int .i64 0, .int .u64 k.x0, .int .u64 k.x1, .int .u64 k.x2, .int .u64 k.x3] 52)).ownsRow 0 52 6 (.slice (some ⟨w.heap.size + 1, 0, none⟩) 1 1) 1 (tls [((1, 0), kn)]) := by rw [HT]; exact ho0
  have C := dLeast_any (some ⟨w.heap.size + 1, 0, none⟩) 1 [((1, 0), kn)] ((w.alloc (.cells #[.int .u64 k.x0, .int .u64 k.x1, .int .u64 k.x2, .int .u64 k.x3] 41)).alloc (.cells #[.int .i64 1, .int .i64 0, .int .u64 k.x0, .int .u64 k.x1, .int .u64 k.x2, .int .u64 k.x3] 52)) (by simp) (own_lts (X := [((1, 0), kn)]) ho)
  rw [hZ] at C
  simp only [List.length_singleton] at C
  replace C := hidden C
  have HB2 := hidden (bl_trans (bl_alloc w (.cells #[.int .u64 k.x0, .int .u64 k.x1, .int .u64 k.x2, .int .u64 k.x3] 41)) (bl_alloc (w.alloc (.cells #[.int .u64 k.x0, .int .u64 k.x1, .int .u64 k.x2, .int .u64 k.x3] 41)) (.cells #[.int .i64 1, .int .i64 0, .int .u64 k.x0, .int .u64 k.x1, .int .u64 k.x2, .int .u64 k.x3] 52)))
  clear ho ho0 hs HT hZ hk
  go_enter Tryd.func14, Tryd.ntmps14
  go_wp2_with (first | (go_at_call 19; refine C.out.mono ?_; rintro e w3 ⟨v3, rfl, h3⟩; have D3 := hidden (Dl.under HB2.out h3); clear h3))
  exact bodyPost_ret (v := v3) (by simp [results, Tryd.results14, go_sem]) rfl ⟨_, rfl, D3.out⟩
end Ci
end Go.Proofs.YtbmbopapmajaaaaDoor
