import Derived.Test.YtebmaneogekhjaaGreatDoorTk
import Derived.Test.YtebmaneogekhjaaGreatDoorRy
import Derived.Test.YtebmaneogekhjaaGreatDoorSnum
namespace Go.Proofs.YtebmaneogekhjaaGreatDoor
open Go.RowKit
theorem limE_small (N : Int) (h0 : 0 ≤ N) (h : N < Sm.L) : limE N = lst N := by
 unfold limE lst
 rw [Int.emod_eq_of_lt h0 h]
theorem L_big : Sm.L + Sm.L < 115792089237316195423570985008687907853269984665640564039457584007913129639936 := by decide
set_option maxRecDepth 100000 in
set_option maxHeartbeats 8000000 in
theorem rAdd_any (n m : Int) (w : World) :
  Calls Tryz.prog 162 #[(lst n).v, (lst m).v] w fun e w' => e = .returned (lst (n + m)).v ∧ Below w.heap.size w w' := by
 obtain ⟨a, hA⟩ : ∃ t : E4, lst n = t := ⟨_, rfl⟩
 obtain ⟨b, hB⟩ : ∃ t : E4, lst m = t := ⟨_, rfl⟩
 obtain ⟨t, hR⟩ : ∃ t : E4, lst (n + m) = t := ⟨_, rfl⟩
 have ha : a.ok := by rw [← hA]; exact lst_ok _
 have hb : b.ok := by rw [← hB]; exact lst_ok _
 have an : a.n = n % Sm.L := by rw [← hA]; exact lst_n n
 have bn : b.n = m % Sm.L := by rw [← hB]; exact lst_n m
 obtain ⟨a0, a1⟩ := mod_bd n
 obtain ⟨b0, b1⟩ := mod_bd m
 have hLb := L_big
 have hN : lst (a.n + b.n) = t := by rw [an, bn, ← hR]; exact lst_congr (mod_add2 n m)
 obtain ⟨s, hs⟩ : ∃ s, limE (a.n + b.n) = s := ⟨_, rfl⟩
 have sn : s.n = a.n + b.n := by rw [← hs]; exact limE_n _ (by omega) (by omega)
 have pl := Hn (fun w => rplus_any a b w ha hb)
 rw [hs] at pl
 obtain ⟨cy, hcy⟩ : ∃ c, (a.n + b.n) / 115792089237316195423570985008687907853269984665640564039457584007913129639936 = c := ⟨_, rfl⟩
 rw [hcy] at pl
 have be := Hn (fun w => rbelow_any s lE w (by rw [← hs]; exact limE_ok _) lE_ok)
 obtain ⟨B, hBB⟩ : ∃ B, decide (s.n < lE.n) = B := ⟨_, rfl⟩
 rw [hBB] at be
 have rl := Hn rl_any
 have lo : B = true → s = t := fun h => by
  have := of_decide_eq_true (hBB.trans h)
  rw [lE_n, sn] at this
  rw [← hs, ← hN]
  exact limE_small _ (by omega) this
 obtain ⟨cz, hcz⟩ : ∃ cz : Int, B = false → ∀ w, Calls Tryz.prog 152 #[s.v, lE.v] w fun e w' => e = .returned (.tuple #[t.v, .int .u64 cz]) ∧ Below w.heap.size w w' := ⟨_, fun h w => by
  have k := rminus_any s lE w (by rw [← hs]; exact limE_ok _) lE_ok
  have hge := of_decide_eq_false (hBB.trans h)
  rw [lE_n, sn] at hge
  have e1 : limE (s.n - lE.n) = t := by
   rw [lE_n, sn, limE_small _ (by omega) (by omega), ← hN]
   exact lst_congr (by rw [Int.sub_emod, Int.emod_self, Int.sub_zero, emod_emod_L])
  rw [e1] at k
  exact k⟩
 have mi := Hn hcz
 have LO := Hn lo
 have s0 := ((St.start w a 107).new b 107).room 107
 simp only [World.size_alloc] at s0
 have S0 := Hn s0
 rw [hA, hB, hR]
 clear s0 hA hB hR ha hb an bn a0 a1 b0 b1 hLb hN hs sn hcy hBB lo hcz
 simp only [E4.v, lE] at pl be rl mi ⊢
 go_enter Tryz.func162, Tryz.ntmps162
 go_upto_region 1 with fail
 generalize (((w.alloc (.cells #[.int .u64 a.x0, .int .u64 a.x1, .int .u64 a.x2, .int .u64 a.x3] 107)).alloc (.cells #[.int .u64 b.x0, .int .u64 b.x1, .int .u64 b.x2, .int .u64 b.x3] 107)).alloc (.cells #[.int .u64 0, .int .u64 0, .int .u64 0, .int .u64 0] 107)) = wB at S0 ⊢
 have x0 := (S0.out.live (w.heap.size, a) (by simp)).c0
 have x1 := (S0.out.live (w.heap.size, a) (by simp)).c1
 have x2 := (S0.out.live (w.heap.size, a) (by simp)).c2
 have x3 := (S0.out.live (w.heap.size, a) (by simp)).c3
 have y0 := (S0.out.live (w.heap.size + 1, b) (by simp)).c0
 have y1 := (S0.out.live (w.heap.size + 1, b) (by simp)).c1
 have y2 := (S0.out.live (w.heap.size + 1, b) (by simp)).c2
 have y3 := (S0.out.live (w.heap.size + 1, b) (by simp)).c3
 go_wp2_with fail
 refine (pl.out _).mono ?_
 rintro e w1 ⟨rfl, hb1⟩
 have hl := ((S0.out.keep hb1).live (w.heap.size + 1 + 1, zero4) (by simp)).lt
 have S1 := Hn (St.less (M := [(w1.heap.size, s), (w.heap.size + 1 + 1, zero4)]) (Q := [w1.heap.size, w.heap.size + 1 + 1]) ((S0.out.keep hb1).roomR s 107) (by simp) (by simp))
 clear x0 x1 x2 x3 y0 y1 y2 y3 hb1 S0
 go_upto_region 2 with fail
 generalize (w1.alloc (.cells #[.int .u64 s.x0, .int .u64 s.x1, .int .u64 s.x2, .int .u64 s.x3] 107)) = wC at S1 ⊢
 generalize w1.heap.size = P at S1 hl ⊢
 have KSt : Hid (∀ w' : World, St w [(P, s), (w.heap.size + 1 + 1, zero4)] [P, w.heap.size + 1 + 1] w' → (fun w' => St w [(P, s), (w.heap.size + 1 + 1, zero4)] [P, w.heap.size + 1 + 1] w' ∧ w'.cell? ⟨P, 0, none⟩ = some (.int .u64 s.x0) ∧ w'.cell? ⟨P, 1, none⟩ = some (.int .u64 s.x1) ∧ w'.cell? ⟨P, 2, none⟩ = some (.int .u64 s.x2) ∧ w'.cell? ⟨P, 3, none⟩ = some (.int .u64 s.x3) ∧ w'.cell? ⟨w.heap.size + 1 + 1, 0, none⟩ = some (.int .u64 0) ∧ w'.cell? ⟨w.heap.size + 1 + 1, 1, none⟩ = some (.int .u64 0) ∧ w'.cell? ⟨w.heap.size + 1 + 1, 2, none⟩ = some (.int .u64 0) ∧ w'.cell? ⟨w.heap.size + 1 + 1, 3, none⟩ = some (.int .u64 0)) w') := Hn (fun w' h => ⟨h, (h.live (P, s) (by simp)).c0, (h.live (P, s) (by simp)).c1, (h.live (P, s) (by simp)).c2, (h.live (P, s) (by simp)).c3, (h.live (w.heap.size + 1 + 1, zero4) (by simp)).c0, (h.live (w.heap.size + 1 + 1, zero4) (by simp)).c1, (h.live (w.heap.size + 1 + 1, zero4) (by simp)).c2, (h.live (w.heap.size + 1 + 1, zero4) (by simp)).c3⟩)
 have K0 : Hid ((fun w' => St w [(P, s), (w.heap.size + 1 + 1, zero4)] [P, w.heap.size + 1 + 1] w' ∧ w'.cell? ⟨P, 0, none⟩ = some (.int .u64 s.x0) ∧ w'.cell? ⟨P, 1, none⟩ = some (.int .u64 s.x1) ∧ w'.cell? ⟨P, 2, none⟩ = some (.int .u64 s.x2) ∧ w'.cell? ⟨P, 3, none⟩ = some (.int .u64 s.x3) ∧ w'.cell? ⟨w.heap.size + 1 + 1, 0, none⟩ = some (.int .u64 0) ∧ w'.cell? ⟨w.heap.size + 1 + 1, 1, none⟩ = some (.int .u64 0) ∧ w'.cell? ⟨w.heap.size + 1 + 1, 2, none⟩ = some (.int .u64 0) ∧ w'.cell? ⟨w.heap.size + 1 + 1, 3, none⟩ = some (.int .u64 0)) _) := Hn (KSt.out _ (S1.out).drew)
 go_region_held3 (fun w' => St w [(P, s), (w.heap.size + 1 + 1, zero4)] [P, w.heap.size + 1 + 1] w' ∧ w'.cell? ⟨P, 0, none⟩ = some (.int .u64 s.x0) ∧ w'.cell? ⟨P, 1, none⟩ = some (.int .u64 s.x1) ∧ w'.cell? ⟨P, 2, none⟩ = some (.int .u64 s.x2) ∧ w'.cell? ⟨P, 3, none⟩ = some (.int .u64 s.x3) ∧ w'.cell? ⟨w.heap.size + 1 + 1, 0, none⟩ = some (.int .u64 0) ∧ w'.cell? ⟨w.heap.size + 1 + 1, 1, none⟩ = some (.int .u64 0) ∧ w'.cell? ⟨w.heap.size + 1 + 1, 2, none⟩ = some (.int .u64 0) ∧ w'.cell? ⟨w.heap.size + 1 + 1, 3, none⟩ = some (.int .u64 0)) (first | with_reducible exact K0.out | with_reducible exact hk.out)
  (first | (go_at_call 151; with_reducible refine (rl.out _).mono ?_; rintro e wn ⟨rfl, hb⟩; have hk := Hn (KSt.out _ ((show St w [(P, s), (w.heap.size + 1 + 1, zero4)] [P, w.heap.size + 1 + 1] _ from And.left (by assumption)).keep hb))) | (go_at_call 154; with_reducible refine (be.out _).mono ?_; rintro e wn ⟨rfl, hb⟩; have hk := Hn (KSt.out _ ((show St w [(P, s), (w.heap.size + 1 + 1, zero4)] [P, w.heap.size + 1 + 1] _ from And.left (by assumption)).keep hb))))
 have S2 := Hn hk.out.1
 clear K0 hk S1
 cases B with
 | true =>
  have hst := LO.out rfl
  subst hst
  clear mi be rl pl
  have x0 := (S2.out.live (P, s) (by simp)).c0
  have x1 := (S2.out.live (P, s) (by simp)).c1
  have x2 := (S2.out.live (P, s) (by simp)).c2
  have x3 := (S2.out.live (P, s) (by simp)).c3
  have d0 := (S2.out.live (w.heap.size + 1 + 1, zero4) (by simp)).c0
  have d1 := (S2.out.live (w.heap.size + 1 + 1, zero4) (by simp)).c1
  have d2 := (S2.out.live (w.heap.size + 1 + 1, zero4) (by simp)).c2
  have d3 := (S2.out.live (w.heap.size + 1 + 1, zero4) (by simp)).c3
  obtain ⟨f0, f1, f2, f3⟩ := (S2.out.wrt (w.heap.size + 1 + 1) (by simp)).1
  go_wp2_with fail
  refine bodyPost_ret (v := .agg #[.int .u64 s.x0, .int .u64 s.x1, .int .u64 s.x2, .int .u64 s.x3]) (by simp [results, Tryz.results162, go_sem, d0, d1, d2, d3]) rfl ⟨rfl, ?_⟩
  exact set4_below _ _ _ S2.out.bel (by omega)
 | false =>
  have mi2 := Hn (mi.out rfl)
  clear be pl mi LO KSt
  go_upto_region 3 with fail
  have SD := Hn S2.out.drew
  have x0 : _ = _ := (SD.out.live (P, s) (by simp)).c0
  have x1 : _ = _ := (SD.out.live (P, s) (by simp)).c1
  have x2 : _ = _ := (SD.out.live (P, s) (by simp)).c2
  have x3 : _ = _ := (SD.out.live (P, s) (by simp)).c3
  go_region_with (first | (go_at_call 151; with_reducible refine (rl.out _).mono ?_; rintro e wm ⟨rfl, hb⟩; have S3 := SD.out.keep hb; have y0 := (S3.live (P, s) (by simp)).c0; have y1 := (S3.live (P, s) (by simp)).c1; have y2 := (S3.live (P, s) (by simp)).c2; have y3 := (S3.live (P, s) (by simp)).c3; have S4 := Hn S3; clear S3 hb) | (go_at_call 152; with_reducible refine (mi2.out _).mono ?_; rintro e wn ⟨rfl, hb⟩; have S5 := S4.out.keep hb; have z0 := (S5.live (P, s) (by simp)).c0; have z1 := (S5.live (P, s) (by simp)).c1; have z2 := (S5.live (P, s) (by simp)).c2; have z3 := (S5.live (P, s) (by simp)).c3; obtain ⟨f0, f1, f2, f3⟩ := (S5.wrt P (by simp)).1; have S6 := Hn (S5.set (b := P) (M := [(w.heap.size + 1 + 1, zero4)]) t (old := s) (by simp) (by have := S5.bel.size; omega) (by simp; omega)); clear S5 hb))
  all_goals
   clear x0 x1 x2 x3 y0 y1 y2 y3 z0 z1 z2 z3 f0 f1 f2 f3 S4 SD S2
   simp only [set4_eq] at *
   generalize set4 _ P t = wE at S6 ⊢
   have x0 := (S6.out.live (P, t) (by simp)).c0
   have x1 := (S6.out.live (P, t) (by simp)).c1
   have x2 := (S6.out.live (P, t) (by simp)).c2
   have x3 := (S6.out.live (P, t) (by simp)).c3
   have d0 := (S6.out.live (w.heap.size + 1 + 1, zero4) (by simp)).c0
   have d1 := (S6.out.live (w.heap.size + 1 + 1, zero4) (by simp)).c1
   have d2 := (S6.out.live (w.heap.size + 1 + 1, zero4) (by simp)).c2
   have d3 := (S6.out.live (w.heap.size + 1 + 1, zero4) (by simp)).c3
   obtain ⟨f0, f1, f2, f3⟩ := (S6.out.wrt (w.heap.size + 1 + 1) (by simp)).1
   go_wp2_with fail
   refine bodyPost_ret (v := .agg #[.int .u64 t.x0, .int .u64 t.x1, .int .u64 t.x2, .int .u64 t.x3]) (by simp [results, Tryz.results162, go_sem, d0, d1, d2, d3]) rfl ⟨rfl, ?_⟩
   exact set4_below _ _ _ S6.out.bel (by omega)
end Go.Proofs.YtebmaneogekhjaaGreatDoor
