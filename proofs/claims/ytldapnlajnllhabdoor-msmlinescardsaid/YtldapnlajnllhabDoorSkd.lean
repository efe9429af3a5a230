import Derived.Test.YtldapnlajnllhabDoorSlm
import Derived.Test.YtldapnlajnllhabDoorSrl
import Derived.Test.YtldapnlajnllhabDoorSde
namespace Go.Proofs.YtldapnlajnllhabDoor
open Go.RowKit

set_option maxHeartbeats 1000000 in
theorem rInt_any (n : Int) (w : World) : Calls Tryd.prog 29 #[.int .u64 n] w fun e w' => e = .returned (⟨n, 0, 0, 0⟩ : E4).v ∧ Below w.heap.size w w' := by
  simp only [E4.v]
  go_enter Tryd.func29, Tryd.ntmps29
  go_wp2_with fail
  refine bodyPost_ret (v := .agg #[.int .u64 n, .int .u64 0, .int .u64 0, .int .u64 0]) (by simp [results, Tryd.results29, go_sem]) rfl ⟨rfl, ?_⟩
  exact bl_alloc w _
set_option maxRecDepth 100000 in
set_option maxHeartbeats 4000000 in
theorem rDecode_any (zs : List Int) (w : World) (lz : zs.length = 32) (hz : ∀ z ∈ zs, 0 ≤ z ∧ z ≤ 255) (B : Bool) (hB : decide ((num zs : Int) < Sm.L) = B) :
    Calls Tryd.prog 44 #[bv zs] w fun e w' => e = .returned (.tuple #[(cond B (limE (num zs)) zero4).v, .int .i64 (cond B 0 3)]) ∧ Below w.heap.size w w' := by
  have c1 := hidden (fun w => rlimbs_any zs w lz hz)
  obtain ⟨s, hs⟩ : ∃ s, limE (num zs) = s := ⟨_, rfl⟩
  have h256 := num_lt256 lz hz
  have sn : s.n = num zs := by rw [← hs]; exact limE_n _ (by omega) h256
  have be := hidden (fun w => rbelow_any s lE w (by rw [← hs]; exact limE_ok _) lE_ok)
  rw [lE_n, sn, hB] at be
  have rl := hidden rl_any
  rw [hs] at c1 ⊢
  have RN := hidden (range_new w zs 26)
  have hi : (Tryd.prog.info? 26).map (·.size) = some (zs.map fun z => Value.int .u8 z).length := by rw [List.length_map, lz]; kernel_rfl
  have hu : Tryd.prog.underlying 26 = some (.array 32 5) := by kernel_rfl
  have HU := hidden hu
  have HI := hidden hi
  have s0 := (St.nil (w.alloc (.cells (zs.map fun z => Value.int .u8 z).toArray 26))).room 35
  simp only [World.size_alloc] at s0
  have S0 : Hid (St w [(w.heap.size + 1, zero4)] [w.heap.size + 1] _) := hidden ⟨s0.live, s0.wrt, bl_trans (bl_alloc w _) (s0.bel)⟩
  clear hu hi lz hz hs h256 sn s0 hB
  unfold bv at *
  generalize (zs.map fun z => Value.int .u8 z) = cs at *
  simp only [E4.v, lE] at c1 be rl ⊢
  go_enter Tryd.func44, Tryd.ntmps44
  go_upto_region 1 with fail
  have RG := hidden (range_keep RN.out (bl_alloc _ (.cells #[.int .u64 0, .int .u64 0, .int .u64 0, .int .u64 0] 35)))
  generalize ((w.alloc (.cells cs.toArray 26)).alloc (.cells #[.int .u64 0, .int .u64 0, .int .u64 0, .int .u64 0] 35)) = wB at S0 RG ⊢
  go_wp2_with (refine wpList_load_mid rfl 26 _ rfl w.heap.size 0 (by rfl) cs _ RG.out HU.out rfl HI.out ?_)
  refine (c1.out _).mono ?_
  rintro e w1 ⟨rfl, hb1⟩
  have hl := ((S0.out.keep hb1).live (w.heap.size + 1, zero4) (by simp)).lt
  have S1 := hidden ((S0.out.keep hb1).new s 35)
  clear hb1 S0 RG RN
  go_upto_region 2 with fail
  generalize (w1.alloc (.cells #[.int .u64 s.x0, .int .u64 s.x1, .int .u64 s.x2, .int .u64 s.x3] 35)) = wC at S1 ⊢
  generalize w1.heap.size = P at S1 hl ⊢
  have KSt : Hid (∀ w' : World, St w [(P, s), (w.heap.size + 1, zero4)] [w.heap.size + 1] w' → (fun w' => St w [(P, s), (w.heap.size + 1, zero4)] [w.heap.size + 1] w' ∧ w'.cell? ⟨P, 0, none⟩ = some (.int .u64 s.x0) ∧ w'.cell? ⟨P, 1, none⟩ = some (.int .u64 s.x1) ∧ w'.cell? ⟨P, 2, none⟩ = some (.int .u64 s.x2) ∧ w'.cell? ⟨P, 3, none⟩ = some (.int .u64 s.x3)) w') := hidden (fun w' h => ⟨h, (h.live (P, s) (by simp)).c0, (h.live (P, s) (by simp)).c1, (h.live (P, s) (by simp)).c2, (h.live (P, s) (by simp)).c3⟩)
  have K0 : Hid ((fun w' => St w [(P, s), (w.heap.size + 1, zero4)] [w.heap.size + 1] w' ∧ w'.cell? ⟨P, 0, none⟩ = some (.int .u64 s.x0) ∧ w'.cell? ⟨P, 1, none⟩ = some (.int .u64 s.x1) ∧ w'.cell? ⟨P, 2, none⟩ = some (.int .u64 s.x2) ∧ w'.cell? ⟨P, 3, none⟩ = some (.int .u64 s.x3)) _) := hidden (KSt.out _ (S1.out).drew)
  go_region_held3 (fun w' => St w [(P, s), (w.heap.size + 1, zero4)] [w.heap.size + 1] w' ∧ w'.cell? ⟨P, 0, none⟩ = some (.int .u64 s.x0) ∧ w'.cell? ⟨P, 1, none⟩ = some (.int .u64 s.x1) ∧ w'.cell? ⟨P, 2, none⟩ = some (.int .u64 s.x2) ∧ w'.cell? ⟨P, 3, none⟩ = some (.int .u64 s.x3)) (first | with_reducible exact K0.out | with_reducible exact hk.out)
    (first | (go_at_call 52; with_reducible refine (rl.out _).mono ?_; rintro e wn ⟨rfl, hb⟩; have hk := hidden (KSt.out _ ((show St w [(P, s), (w.heap.size + 1, zero4)] [w.heap.size + 1] _ from And.left (by assumption)).keep hb))) | (go_at_call 51; with_reducible refine (be.out _).mono ?_; rintro e wn ⟨rfl, hb⟩; have hk := hidden (KSt.out _ ((show St w [(P, s), (w.heap.size + 1, zero4)] [w.heap.size + 1] _ from And.left (by assumption)).keep hb))))
  have S2 := hidden hk.out.1
  clear K0 hk S1 KSt
  have x0 := (S2.out.live (P, s) (by simp)).c0
  have x1 := (S2.out.live (P, s) (by simp)).c1
  have x2 := (S2.out.live (P, s) (by simp)).c2
  have x3 := (S2.out.live (P, s) (by simp)).c3
  have d0 := (S2.out.live (w.heap.size + 1, zero4) (by simp)).c0
  have d1 := (S2.out.live (w.heap.size + 1, zero4) (by simp)).c1
  have d2 := (S2.out.live (w.heap.size + 1, zero4) (by simp)).c2
  have d3 := (S2.out.live (w.heap.size + 1, zero4) (by simp)).c3
  obtain ⟨f0, f1, f2, f3⟩ := (S2.out.wrt (w.heap.size + 1) (by simp)).1
  cases B with
  | true =>
    go_wp2_with fail
    refine bodyPost_ret (v := .tuple #[.agg #[.int .u64 s.x0, .int .u64 s.x1, .int .u64 s.x2, .int .u64 s.x3], .int .i64 0]) (by simp [results, Tryd.results44, go_sem, d0, d1, d2, d3]) rfl ⟨rfl, ?_⟩
    exact set4_below _ _ _ S2.out.bel (by omega)
  | false =>
    go_wp2_with fail
    refine bodyPost_ret (v := .tuple #[.agg #[.int .u64 0, .int .u64 0, .int .u64 0, .int .u64 0], .int .i64 3]) (by simp [results, Tryd.results44, go_sem, d0, d1, d2, d3]) rfl ⟨rfl, ?_⟩
    exact set4_below _ _ zero4 S2.out.bel (by omega)
end Go.Proofs.YtldapnlajnllhabDoor
