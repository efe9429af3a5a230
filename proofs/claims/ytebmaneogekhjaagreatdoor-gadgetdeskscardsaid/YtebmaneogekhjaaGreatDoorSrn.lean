import Derived.Test.YtebmaneogekhjaaGreatDoorTk
import Derived.Test.YtebmaneogekhjaaGreatDoorSra
import Derived.Test.YtebmaneogekhjaaGreatDoorSse
namespace Go.Proofs.YtebmaneogekhjaaGreatDoor
open Go.RowKit
set_option maxRecDepth 100000 in
set_option maxHeartbeats 8000000 in
theorem rNeg_any (n : Int) (w : World) :
  Calls Tryz.prog 140 #[(lst n).v] w fun e w' => e = .returned (lst (-n)).v ∧ Below w.heap.size w w' := by
 obtain ⟨a, hA⟩ : ∃ t : E4, lst n = t := ⟨_, rfl⟩
 obtain ⟨t, hR⟩ : ∃ t : E4, lst (-n) = t := ⟨_, rfl⟩
 have ha : a.ok := by rw [← hA]; exact lst_ok _
 have an : a.n = n % Sm.L := by rw [← hA]; exact lst_n n
 obtain ⟨a0, a1⟩ := mod_bd n
 have iz := Hn (fun w => rIsZero_any a w)
 obtain ⟨B, hBB⟩ : ∃ B, a.same zero4 = B := ⟨_, rfl⟩
 rw [hBB] at iz
 have rl := Hn rl_any
 have lo : B = true → a = t := fun h => by
  have h1 := (E4.same_iff a zero4).1 (hBB.trans h)
  have h2 : n % Sm.L = 0 := by rw [← an, h1]; rfl
  rw [h1, ← hR, ← zero_lst]
  exact lst_congr (by rw [Int.neg_emod_eq_sub_emod, Int.sub_emod, h2]; decide)
 obtain ⟨cz, hcz⟩ : ∃ cz : Int, B = false → ∀ w, Calls Tryz.prog 152 #[lE.v, a.v] w fun e w' => e = .returned (.tuple #[t.v, .int .u64 cz]) ∧ Below w.heap.size w w' := ⟨_, fun h w => by
  have k := rminus_any lE a w lE_ok ha
  have hne : n % Sm.L ≠ 0 := fun h0 => by
   have h1 : a = zero4 := by rw [← hA]; exact (zero_is n).2 h0
   rw [h1, E4.same_self] at hBB
   rw [← hBB] at h
   exact Bool.noConfusion h
  have e1 : limE (lE.n - a.n) = t := by
   rw [lE_n, an, limE_small _ (by omega) (by omega), ← hR]
   exact lst_congr (by rw [Int.sub_emod, Int.emod_self, emod_emod_L, Int.zero_sub, Int.neg_emod_eq_sub_emod, Int.sub_emod, Int.emod_self, emod_emod_L, Int.neg_emod_eq_sub_emod, Int.sub_emod Sm.L n, Int.emod_self])
  rw [e1] at k
  exact k⟩
 have mi := Hn hcz
 have LO := Hn lo
 have s0 := (St.start w a 107).room 107
 simp only [World.size_alloc] at s0
 have S0 := Hn s0
 rw [hA, hR]
 clear s0 hA hR ha an a0 a1 hBB lo hcz
 simp only [E4.v, lE] at iz rl mi ⊢
 go_enter Tryz.func140, Tryz.ntmps140
 go_upto_region 1 with fail
 generalize ((w.alloc (.cells #[.int .u64 a.x0, .int .u64 a.x1, .int .u64 a.x2, .int .u64 a.x3] 107)).alloc (.cells #[.int .u64 0, .int .u64 0, .int .u64 0, .int .u64 0] 107)) = wB at S0 ⊢
 have x0 := (S0.out.live (w.heap.size, a) (by simp)).c0
 have x1 := (S0.out.live (w.heap.size, a) (by simp)).c1
 have x2 := (S0.out.live (w.heap.size, a) (by simp)).c2
 have x3 := (S0.out.live (w.heap.size, a) (by simp)).c3
 go_wp2_with fail
 refine (iz.out _).mono ?_
 rintro e w1 ⟨rfl, hb1⟩
 have S1 := Hn (S0.out.keep hb1)
 clear x0 x1 x2 x3 hb1 S0 iz
 cases B with
 | true =>
  have hst := LO.out rfl
  subst hst
  clear mi rl
  have x0 := (S1.out.live (w.heap.size, a) (by simp)).c0
  have x1 := (S1.out.live (w.heap.size, a) (by simp)).c1
  have x2 := (S1.out.live (w.heap.size, a) (by simp)).c2
  have x3 := (S1.out.live (w.heap.size, a) (by simp)).c3
  have d0 := (S1.out.live (w.heap.size + 1, zero4) (by simp)).c0
  have d1 := (S1.out.live (w.heap.size + 1, zero4) (by simp)).c1
  have d2 := (S1.out.live (w.heap.size + 1, zero4) (by simp)).c2
  have d3 := (S1.out.live (w.heap.size + 1, zero4) (by simp)).c3
  obtain ⟨f0, f1, f2, f3⟩ := (S1.out.wrt (w.heap.size + 1) (by simp)).1
  go_wp2_with fail
  refine bodyPost_ret (v := .agg #[.int .u64 a.x0, .int .u64 a.x1, .int .u64 a.x2, .int .u64 a.x3]) (by simp [results, Tryz.results140, go_sem, d0, d1, d2, d3]) rfl ⟨rfl, ?_⟩
  exact set4_below _ _ _ S1.out.bel (by omega)
 | false =>
  have mi2 := Hn (mi.out rfl)
  clear mi LO
  go_upto_region 3 with fail
  go_cut [3, 4] (fun vx vy wx => ∃ P : Nat, vx = .pointer (some ⟨P, 0, none⟩) ∧ w.heap.size + 1 < P ∧ (∃ z : Value, vy = z) ∧ St w [(P, t), (w.heap.size + 1, zero4)] [w.heap.size + 1] wx)
  case first =>
   have SD := S1.out.drew
   have hl1 := (S1.out.live (w.heap.size + 1, zero4) (by simp)).lt
   have x0 := (SD.live (w.heap.size, a) (by simp)).c0
   have x1 := (SD.live (w.heap.size, a) (by simp)).c1
   have x2 := (SD.live (w.heap.size, a) (by simp)).c2
   have x3 := (SD.live (w.heap.size, a) (by simp)).c3
   have xa0 : ∀ o, (w1.alloc o).drew.cell? ⟨w.heap.size, 0, none⟩ = some (.int .u64 a.x0) := fun o => ((S1.out.keep (bl_alloc _ o)).drew.live (w.heap.size, a) (by simp)).c0
   have xa1 : ∀ o, (w1.alloc o).drew.cell? ⟨w.heap.size, 1, none⟩ = some (.int .u64 a.x1) := fun o => ((S1.out.keep (bl_alloc _ o)).drew.live (w.heap.size, a) (by simp)).c1
   have xa2 : ∀ o, (w1.alloc o).drew.cell? ⟨w.heap.size, 2, none⟩ = some (.int .u64 a.x2) := fun o => ((S1.out.keep (bl_alloc _ o)).drew.live (w.heap.size, a) (by simp)).c2
   have xa3 : ∀ o, (w1.alloc o).drew.cell? ⟨w.heap.size, 3, none⟩ = some (.int .u64 a.x3) := fun o => ((S1.out.keep (bl_alloc _ o)).drew.live (w.heap.size, a) (by simp)).c3
   have SA := (S1.out.room 107).drew
   clear S1
   go_region_with (first | (go_at_call 151; with_reducible refine (rl.out _).mono ?_; rintro e wm ⟨rfl, hb⟩; have SL := St.keep (by first | assumption | exact St.room (by assumption) _) hb; have hl2 := (SL.live (w.heap.size + 1, zero4) (by simp)).lt; have y0 := (SL.live (w.heap.size, a) (by simp)).c0; have y1 := (SL.live (w.heap.size, a) (by simp)).c1; have y2 := (SL.live (w.heap.size, a) (by simp)).c2; have y3 := (SL.live (w.heap.size, a) (by simp)).c3;have ya0 : ∀ o, (wm.alloc o).cell? ⟨w.heap.size, 0, none⟩ = some (.int .u64 a.x0) := fun o => ((SL.keep (bl_alloc _ o)).live (w.heap.size, a) (by simp)).c0; have ya1 : ∀ o, (wm.alloc o).cell? ⟨w.heap.size, 1, none⟩ = some (.int .u64 a.x1) := fun o => ((SL.keep (bl_alloc _ o)).live (w.heap.size, a) (by simp)).c1; have ya2 : ∀ o, (wm.alloc o).cell? ⟨w.heap.size, 2, none⟩ = some (.int .u64 a.x2) := fun o => ((SL.keep (bl_alloc _ o)).live (w.heap.size, a) (by simp)).c2; have ya3 : ∀ o, (wm.alloc o).cell? ⟨w.heap.size, 3, none⟩ = some (.int .u64 a.x3) := fun o => ((SL.keep (bl_alloc _ o)).live (w.heap.size, a) (by simp)).c3; clear hb) | (go_at_call 152; with_reducible refine (mi2.out _).mono ?_; rintro e wn ⟨rfl, hb⟩; have SM := St.keep (by first | assumption | exact St.room (by assumption) _) hb; have hl3 := (SM.live (w.heap.size + 1, zero4) (by simp)).lt; have z0 := (SM.live _ (List.Mem.head _)).c0; have z1 := (SM.live _ (List.Mem.head _)).c1; have z2 := (SM.live _ (List.Mem.head _)).c2; have z3 := (SM.live _ (List.Mem.head _)).c3; have zf := (SM.wrt _ (List.Mem.head _)).1; obtain ⟨f0, f1, f2, f3⟩ := zf; clear hb))
   all_goals
    go_wp2_with fail
    go_meet
    first | exact ⟨_, rfl, by first | exact hl3 | exact hl2 | exact hl1, ⟨_, rfl⟩, St.less (SM.roomR t _) (by simp) (by simp)⟩ | exact ⟨_, rfl, by first | exact hl2 | exact hl1, ⟨_, rfl⟩, St.less (M := [(_, t), (w.heap.size + 1, zero4)]) (Q := [w.heap.size + 1]) (SM.set (M := [(w.heap.size + 1, zero4)]) t (List.Mem.head _) (by omega) (by first | (simp; omega) | simp)) (by simp) (by simp)⟩
  case rest =>
  obtain ⟨P, rfl, hP, ⟨z, rfl⟩, s3⟩ := hcut
  have S3 := Hn s3
  clear s3 S1 mi2 rl
  have x0 := (S3.out.live (P, t) (by simp)).c0
  have x1 := (S3.out.live (P, t) (by simp)).c1
  have x2 := (S3.out.live (P, t) (by simp)).c2
  have x3 := (S3.out.live (P, t) (by simp)).c3
  have d0 := (S3.out.live (w.heap.size + 1, zero4) (by simp)).c0
  have d1 := (S3.out.live (w.heap.size + 1, zero4) (by simp)).c1
  have d2 := (S3.out.live (w.heap.size + 1, zero4) (by simp)).c2
  have d3 := (S3.out.live (w.heap.size + 1, zero4) (by simp)).c3
  obtain ⟨f0, f1, f2, f3⟩ := (S3.out.wrt (w.heap.size + 1) (by simp)).1
  go_wp2_with fail
  refine bodyPost_ret (v := .agg #[.int .u64 t.x0, .int .u64 t.x1, .int .u64 t.x2, .int .u64 t.x3]) (by simp [results, Tryz.results140, go_sem, d0, d1, d2, d3]) rfl ⟨rfl, ?_⟩
  exact set4_below _ _ _ S3.out.bel (by omega)
end Go.Proofs.YtebmaneogekhjaaGreatDoor
