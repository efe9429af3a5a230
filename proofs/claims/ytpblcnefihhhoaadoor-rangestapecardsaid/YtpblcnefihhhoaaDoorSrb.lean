import Derived.Test.YtpblcnefihhhoaaDoorSrn
namespace Go.Proofs.YtpblcnefihhhoaaDoor
open Go.RowKit

set_option maxRecDepth 100000 in
set_option maxHeartbeats 8000000 in
theorem rSub_any (n m : Int) (w : World) :
    Calls Tryd.prog 25 #[(lst n).v, (lst m).v] w fun e w' => e = .returned (lst (n - m)).v ∧ Below w.heap.size w w' := by
  obtain ⟨a, hA⟩ : ∃ t : E4, lst n = t := ⟨_, rfl⟩
  obtain ⟨b, hB⟩ : ∃ t : E4, lst m = t := ⟨_, rfl⟩
  obtain ⟨c, hC⟩ : ∃ t : E4, lst (-m) = t := ⟨_, rfl⟩
  obtain ⟨t, hR⟩ : ∃ t : E4, lst (n - m) = t := ⟨_, rfl⟩
  have ng := hidden (fun w => rNeg_any m w)
  have ad := hidden (fun w => rAdd_any n (-m) w)
  rw [hB, hC] at ng
  rw [hA, hC, show n + -m = n - m by omega, hR] at ad
  have s0 := ((St.start w a 34).new b 34).room 34
  simp only [World.size_alloc] at s0
  have S0 := hidden s0
  rw [hA, hB, hR]
  clear s0 hA hB hC hR
  simp only [E4.v] at ng ad ⊢
  go_enter Tryd.func25, Tryd.ntmps25
  go_upto_region 1 with fail
  generalize (((w.alloc (.cells #[.int .u64 a.x0, .int .u64 a.x1, .int .u64 a.x2, .int .u64 a.x3] 34)).alloc (.cells #[.int .u64 b.x0, .int .u64 b.x1, .int .u64 b.x2, .int .u64 b.x3] 34)).alloc (.cells #[.int .u64 0, .int .u64 0, .int .u64 0, .int .u64 0] 34)) = wB at S0 ⊢
  have SD := hidden S0.out.drew
  have x0 := (SD.out.live (w.heap.size, a) (by simp)).c0
  have x1 := (SD.out.live (w.heap.size, a) (by simp)).c1
  have x2 := (SD.out.live (w.heap.size, a) (by simp)).c2
  have x3 := (SD.out.live (w.heap.size, a) (by simp)).c3
  have y0 := (SD.out.live (w.heap.size + 1, b) (by simp)).c0
  have y1 := (SD.out.live (w.heap.size + 1, b) (by simp)).c1
  have y2 := (SD.out.live (w.heap.size + 1, b) (by simp)).c2
  have y3 := (SD.out.live (w.heap.size + 1, b) (by simp)).c3
  go_region_with (first | (go_at_call 46; with_reducible refine (ng.out _).mono ?_; rintro e wm ⟨rfl, hb⟩; have S3 := SD.out.keep hb; have u0 := (S3.live (w.heap.size, a) (by simp)).c0; have u1 := (S3.live (w.heap.size, a) (by simp)).c1; have u2 := (S3.live (w.heap.size, a) (by simp)).c2; have u3 := (S3.live (w.heap.size, a) (by simp)).c3; have S4 := hidden S3; clear S3 hb) | (go_at_call 23; with_reducible refine (ad.out _).mono ?_; rintro e wn ⟨rfl, hb⟩; have S5 := S4.out.keep hb; have z0 := (S5.live (w.heap.size + 1 + 1, zero4) (by simp)).c0; have z1 := (S5.live (w.heap.size + 1 + 1, zero4) (by simp)).c1; have z2 := (S5.live (w.heap.size + 1 + 1, zero4) (by simp)).c2; have z3 := (S5.live (w.heap.size + 1 + 1, zero4) (by simp)).c3; obtain ⟨f0, f1, f2, f3⟩ := (S5.wrt (w.heap.size + 1 + 1) (by simp)).1; have S6 := hidden S5; clear S5 hb))
  all_goals
    go_wp2_with fail
    refine bodyPost_ret (v := .agg #[.int .u64 t.x0, .int .u64 t.x1, .int .u64 t.x2, .int .u64 t.x3]) (by simp [results, Tryd.results25, go_sem, z0, z1, z2, z3]) rfl ⟨rfl, ?_⟩
    exact set4_below _ _ _ S6.out.bel (by omega)
end Go.Proofs.YtpblcnefihhhoaaDoor
