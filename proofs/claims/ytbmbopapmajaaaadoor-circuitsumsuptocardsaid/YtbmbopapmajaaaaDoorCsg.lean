import Derived.Test.YtbmbopapmajaaaaDoorCsf
import Derived.Test.YtbmbopapmajaaaaDoorSrl
namespace Go.Proofs.YtbmbopapmajaaaaDoor
open Go.RowKit
set_option linter.unusedVariables false
set_option linter.unusedSimpArgs false
open Cm (Wr Tm co bf Ls lf ins Eqm)
namespace Ci
set_option maxRecDepth 100000
set_option maxHeartbeats 4000000
theorem num19_any (a : E4) (ha : a.ok) (w : World) : Calls Tryd.prog 15 #[.agg #[.int .u64 a.x0, .int .u64 a.x1, .int .u64 a.x2, .int .u64 a.x3]] w fun e w' => e = .returned (.agg #[.int .u64 (lst a.n).x0, .int .u64 (lst a.n).x1, .int .u64 (lst a.n).x2, .int .u64 (lst a.n).x3]) ∧ Below w.heap.size w w' := by
  have RL := fun y => fix (rleast_any a y ha) rfl
  simp only [E4.v] at RL
  obtain ⟨z, hz⟩ : ∃ z, lst a.n = z := ⟨_, rfl⟩
  simp only [hz] at RL ⊢
  replace RL := hidden RL
  clear hz ha
  have e0 : ((w.alloc (.cells #[.int .u64 a.x0, .int .u64 a.x1, .int .u64 a.x2, .int .u64 a.x3] 26)).alloc (.cells #[.int .u64 0, .int .u64 0, .int .u64 0, .int .u64 0] 41)).cell? ⟨w.heap.size + 1, 0, none⟩ = some (.int .u64 0) := by go_simp
  have f0 : ((w.alloc (.cells #[.int .u64 a.x0, .int .u64 a.x1, .int .u64 a.x2, .int .u64 a.x3] 26)).alloc (.cells #[.int .u64 0, .int .u64 0, .int .u64 0, .int .u64 0] 41)).frozen? ⟨w.heap.size + 1, 0, none⟩ = false := by go_simp
  have e1 : ((w.alloc (.cells #[.int .u64 a.x0, .int .u64 a.x1, .int .u64 a.x2, .int .u64 a.x3] 26)).alloc (.cells #[.int .u64 0, .int .u64 0, .int .u64 0, .int .u64 0] 41)).cell? ⟨w.heap.size + 1, 1, none⟩ = some (.int .u64 0) := by go_simp
  have f1 : ((w.alloc (.cells #[.int .u64 a.x0, .int .u64 a.x1, .int .u64 a.x2, .int .u64 a.x3] 26)).alloc (.cells #[.int .u64 0, .int .u64 0, .int .u64 0, .int .u64 0] 41)).frozen? ⟨w.heap.size + 1, 1, none⟩ = false := by go_simp
  have e2 : ((w.alloc (.cells #[.int .u64 a.x0, .int .u64 a.x1, .int .u64 a.x2, .int .u64 a.x3] 26)).alloc (.cells #[.int .u64 0, .int .u64 0, .int .u64 0, .int .u64 0] 41)).cell? ⟨w.heap.size + 1, 2, none⟩ = some (.int .u64 0) := by go_simp
  have f2 : ((w.alloc (.cells #[.int .u64 a.x0, .int .u64 a.x1, .int .u64 a.x2, .int .u64 a.x3] 26)).alloc (.cells #[.int .u64 0, .int .u64 0, .int .u64 0, .int .u64 0] 41)).frozen? ⟨w.heap.size + 1, 2, none⟩ = false := by go_simp
  have e3 : ((w.alloc (.cells #[.int .u64 a.x0, .int .u64 a.x1, .int .u64 a.x2, .int .u64 a.x3] 26)).alloc (.cells #[.int .u64 0, .int .u64 0, .int .u64 0, .int .u64 0] 41)).cell? ⟨w.heap.size + 1, 3, none⟩ = some (.int .u64 0) := by go_simp
  have f3 : ((w.alloc (.cells #[.int .u64 a.x0, .int .u64 a.x1, .int .u64 a.x2, .int .u64 a.x3] 26)).alloc (.cells #[.int .u64 0, .int .u64 0, .int .u64 0, .int .u64 0] 41)).frozen? ⟨w.heap.size + 1, 3, none⟩ = false := by go_simp
  have HB := hidden (bl_trans (bl_alloc w (.cells #[.int .u64 a.x0, .int .u64 a.x1, .int .u64 a.x2, .int .u64 a.x3] 26)) (bl_alloc (w.alloc (.cells #[.int .u64 a.x0, .int .u64 a.x1, .int .u64 a.x2, .int .u64 a.x3] 26)) (.cells #[.int .u64 0, .int .u64 0, .int .u64 0, .int .u64 0] 41)))
  go_enter Tryd.func15, Tryd.ntmps15
  go_wp2_with (first | (go_at_call 29; refine (RL.out _).mono ?_; rintro e wa ⟨rfl, hb⟩; have d0 := cell_keep e0 hb; have g0 := (hb.frozen (p := ⟨w.heap.size + 1, 0, none⟩) (by simp)).trans f0; have d1 := cell_keep e1 hb; have g1 := (hb.frozen (p := ⟨w.heap.size + 1, 1, none⟩) (by simp)).trans f1; have d2 := cell_keep e2 hb; have g2 := (hb.frozen (p := ⟨w.heap.size + 1, 2, none⟩) (by simp)).trans f2; have d3 := cell_keep e3 hb; have g3 := (hb.frozen (p := ⟨w.heap.size + 1, 3, none⟩) (by simp)).trans f3; have BE := hidden (bl_trans HB.out hb); clear hb))
  refine bodyPost_ret (v := .agg #[.int .u64 z.x0, .int .u64 z.x1, .int .u64 z.x2, .int .u64 z.x3]) (by simp [results, Tryd.results15, go_sem, d0, d1, d2, d3]) rfl ⟨rfl, ?_⟩
  exact set4_below _ _ _ BE.out (by omega)
theorem wire19_any (q : Wr) (w : World) : Calls Tryd.prog 13 #[.agg #[.int .i64 q.1, .int .i64 q.2]] w fun e w' => e = .returned (.agg #[.int .i64 q.1, .int .i64 q.2]) ∧ Below w.heap.size w w' := by
  obtain ⟨qk, qi⟩ := q
  simp only
  go_enter Tryd.func13, Tryd.ntmps13
  go_wp2_with fail
  refine bodyPost_ret (v := .agg #[.int .i64 qk, .int .i64 qi]) (by simp [results, Tryd.results13, go_sem]) rfl ⟨rfl, ?_⟩
  exact bl_trans (bl_alloc w _) (bl_alloc _ _)
end Ci
end Go.Proofs.YtbmbopapmajaaaaDoor
