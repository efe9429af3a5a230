import Derived.Test.YtghcfcglakbkeaaGreatDoorSrt
namespace Go.Proofs.YtghcfcglakbkeaaGreatDoor
open Go.RowKit
theorem limE_small (N : Int) (h0 : 0 ≤ N) (h : N < Sm.L) : limE N = lst N := by
 unfold limE lst
 rw [Int.emod_eq_of_lt h0 h]
theorem L_big : Sm.L + Sm.L < 115792089237316195423570985008687907853269984665640564039457584007913129639936 := by decide
set_option maxRecDepth 100000 in
set_option maxHeartbeats 8000000 in
theorem rAdd_any (n m : Int) (w : World) :
  Calls Tryz.prog 52 #[(lst n).v, (lst m).v] w fun e w' => e = .returned (lst (n + m)).v ∧ Below w.heap.size w w' := by
 obtain ⟨a, hA⟩ : ∃ t : E4, lst n = t := ⟨_, rfl⟩
 obtain ⟨b, hB⟩ : ∃ t : E4, lst m = t := ⟨_, rfl⟩
 obtain ⟨t, hR⟩ : ∃ t : E4, lst (n + m) = t := ⟨_, rfl⟩
 have ha : a.ok := by rw [← hA]; exact lst_ok _
 have hb : b.ok := by rw [← hB]; exact lst_ok _
 have an : a.n = n % Sm.L := by rw [← hA]; exact lst_n n
 have bn : b.n = m % Sm.L := by rw [← hB]; exact lst_n m
 obtain ⟨a0, a1⟩ := mod_bd n
 obtain ⟨b0, b1⟩ := mod_bd m
 have hLb := L_big
 have hN : lst (a.n + b.n) = t := by rw [an, bn, ← hR]; exact lst_congr (mod_add2 n m)
 obtain ⟨s, hs⟩ : ∃ s, limE (a.n + b.n) = s := ⟨_, rfl⟩
 have sn : s.n = a.n + b.n := by rw [← hs]; exact limE_n _ (by omega) (by omega)
 have pl := Hn (fun w => rplus_any a b w ha hb)
 rw [hs] at pl
 obtain ⟨cy, hcy⟩ : ∃ c, (a.n + b.n) / 115792089237316195423570985008687907853269984665640564039457584007913129639936 = c := ⟨_, rfl⟩
 rw [hcy] at pl
 have be := Hn (fun w => rbelow_any s lE w (by rw [← hs]; exact limE_ok _) lE_ok)
 obtain ⟨B, hBB⟩ : ∃ B, decide (s.n < lE.n) = B := ⟨_, rfl⟩
 rw [hBB] at be
 have rl := Hn rl_any
 have lo : B = true → s = t := fun h => by
  have := of_decide_eq_true (hBB.trans h)
  rw [lE_n, sn] at this
  rw [← hs, ← hN]
  exact limE_small _ (by omega) this
 obtain ⟨cz, hcz⟩ : ∃ cz : Int, B = false → ∀ w, Calls Tryz.prog 94 #[s.v, lE.v] w fun e w' => e = .returned (.tuple #[t.v, .int .u64 cz]) ∧ Below w.heap.size w w' := ⟨_, fun h w => by
  have k := rminus_any s lE w (by rw [← hs]; exact limE_ok _) lE_ok
  have hge := of_decide_eq_false (hBB.trans h)
  rw [lE_n, sn] at hge
  have e1 : limE (s.n - lE.n) = t := by
   rw [lE_n, sn, limE_small _ (by omega) (by omega), ← hN]
   exact lst_congr (by rw [Int.sub_emod, Int.emod_self, Int.sub_zero, emod_emod_L])
  rw [e1] at k
  exact k⟩
 have mi := Hn hcz
 have LO := Hn lo
 have s0 := ((St.start w a 52).new b 52).room 52
 simp only [World.size_alloc] at s0
 have S0 := Hn s0
 rw [hA, hB, hR]
 clear s0 hA hB hR ha hb an bn a0 a1 b0 b1 hLb hN hs sn hcy hBB lo hcz
 simp only [E4.v, lE] at pl be rl mi ⊢
 go_enter Tryz.func52, Tryz.ntmps52
 go_upto_region 1 with fail
 generalize (((w.alloc (.cells #[.int .u64 a.x0, .int .u64 a.x1, .int .u64 a.x2, .int .u64 a.x3] 52)).alloc (.cells #[.int .u64 b.x0, .int .u64 b.x1, .int .u64 b.x2, .int .u64 b.x3] 52)).alloc (.cells #[.int .u64 0, .int .u64 0, .int .u64 0, .int .u64 0] 52)) = wB at S0 ⊢
 have x0 := (S0.out.live (w.heap.size, a) (by simp)).c0
 have x1 := (S0.out.live (w.heap.size, a) (by simp)).c1
 have x2 := (S0.out.live (w.heap.size, a) (by simp)).c2
 have x3 := (S0.out.live (w.heap.size, a) (by simp)).c3
 have y0 := (S0.out.live (w.heap.size + 1, b) (by simp)).c0
 have y1 := (S0.out.live (w.heap.size + 1, b) (by simp)).c1
 have y2 := (S0.out.live (w.heap.size + 1, b) (by simp)).c2
 have y3 := (S0.out.live (w.heap.size + 1, b) (by simp)).c3
 go_wp2_with fail
 refine (pl.out _).mono ?_
 rintro e w1 ⟨rfl, hb1⟩
 have hl := ((S0.out.keep hb1).live (w.heap.size + 1 + 1, zero4) (by simp)).lt
 have S1 := Hn (St.less (M := [(w1.heap.size, s), (w.heap.size + 1 + 1, zero4)]) (Q := [w1.heap.size, w.heap.size + 1 + 1]) ((S0.out.keep hb1).roomR s 52) (by simp) (by simp))
 clear x0 x1 x2 x3 y0 y1 y2 y3 hb1 S0
 go_upto_region 2 with fail
 generalize (w1.alloc (.cells #[.int .u64 s.x0, .int .u64 s.x1, .int .u64 s.x2, .int .u64 s.x3] 52)) = wC at S1 ⊢
 generalize w1.heap.size = P at S1 hl ⊢
 have KSt : Hid (∀ w' : World, St w [(P, s), (w.heap.size + 1 + 1, zero4)] [P, w.heap.size + 1 + 1] w' → (fun w' => St w [(P, s), (w.heap.size + 1 + 1, zero4)] [P, w.heap.size + 1 + 1] w' ∧ w'.cell? ⟨P, 0, none⟩ = some (.int .u64 s.x0) ∧ w'.cell? ⟨P, 1, none⟩ = some (.int .u64 s.x1) ∧ w'.cell? ⟨P, 2, none⟩ = some (.int .u64 s.x2) ∧ w'.cell? ⟨P, 3, none⟩ = some (.int .u64 s.x3) ∧ w'.cell? ⟨w.heap.size + 1 + 1, 0, none⟩ = some (.int .u64 0) ∧ w'.cell? ⟨w.heap.size + 1 + 1, 1, none⟩ = some (.int .u64 0) ∧ w'.cell? ⟨w.heap.size + 1 + 1, 2, none⟩ = some (.int .u64 0) ∧ w'.cell? ⟨w.heap.size + 1 + 1, 3, none⟩ = some (.int .u64 0)) w') := Hn (fun w' h => ⟨h, (h.live (P, s) (by simp)).c0, (h.live (P, s) (by simp)).c1, (h.live (P, s) (by simp)).c2, (h.live (P, s) (by simp)).c3, (h.live (w.heap.size + 1 + 1, zero4) (by simp)).c0, (h.live (w.heap.size + 1 + 1, zero4) (by simp)).c1, (h.live (w.heap.size + 1 + 1, zero4) (by simp)).c2, (h.live (w.heap.size + 1 + 1, zero4) (by simp)).c3⟩)
 have K0 : Hid ((fun w' => St w [(P, s), (w.heap.size + 1 + 1, zero4)] [P, w.heap.size + 1 + 1] w' ∧ w'.cell? ⟨P, 0, none⟩ = some (.int .u64 s.x0) ∧ w'.cell? ⟨P, 1, none⟩ = some (.int .u64 s.x1) ∧ w'.cell? ⟨P, 2, none⟩ = some (.int .u64 s.x2) ∧ w'.cell? ⟨P, 3, none⟩ = some (.int .u64 s.x3) ∧ w'.cell? ⟨w.heap.size + 1 + 1, 0, none⟩ = some (.int .u64 0) ∧ w'.cell? ⟨w.heap.size + 1 + 1, 1, none⟩ = some (.int .u64 0) ∧ w'.cell? ⟨w.heap.size + 1 + 1, 2, none⟩ = some (.int .u64 0) ∧ w'.cell? ⟨w.heap.size + 1 + 1, 3, none⟩ = some (.int .u64 0)) _) := Hn (KSt.out _ (S1.out).drew)
 go_region_held3 (fun w' => St w [(P, s), (w.heap.size + 1 + 1, zero4)] [P, w.heap.size + 1 + 1] w' ∧ w'.cell? ⟨P, 0, none⟩ = some (.int .u64 s.x0) ∧ w'.cell? ⟨P, 1, none⟩ = some (.int .u64 s.x1) ∧ w'.cell? ⟨P, 2, none⟩ = some (.int .u64 s.x2) ∧ w'.cell? ⟨P, 3, none⟩ = some (.int .u64 s.x3) ∧ w'.cell? ⟨w.heap.size + 1 + 1, 0, none⟩ = some (.int .u64 0) ∧ w'.cell? ⟨w.heap.size + 1 + 1, 1, none⟩ = some (.int .u64 0) ∧ w'.cell? ⟨w.heap.size + 1 + 1, 2, none⟩ = some (.int .u64 0) ∧ w'.cell? ⟨w.heap.size + 1 + 1, 3, none⟩ = some (.int .u64 0)) (first | with_reducible exact K0.out | with_reducible exact hk.out)
  (first | (go_at_call 93; with_reducible refine (rl.out _).mono ?_; rintro e wn ⟨rfl, hb⟩; have hk := Hn (KSt.out _ ((show St w [(P, s), (w.heap.size + 1 + 1, zero4)] [P, w.heap.size + 1 + 1] _ from And.left (by assumption)).keep hb))) | (go_at_call 92; with_reducible refine (be.out _).mono ?_; rintro e wn ⟨rfl, hb⟩; have hk := Hn (KSt.out _ ((show St w [(P, s), (w.heap.size + 1 + 1, zero4)] [P, w.heap.size + 1 + 1] _ from And.left (by assumption)).keep hb))))
 have S2 := Hn hk.out.1
 clear K0 hk S1
 cases B with
 | true =>
  have hst := LO.out rfl
  subst hst
  clear mi be rl pl
  have x0 := (S2.out.live (P, s) (by simp)).c0
  have x1 := (S2.out.live (P, s) (by simp)).c1
  have x2 := (S2.out.live (P, s) (by simp)).c2
  have x3 := (S2.out.live (P, s) (by simp)).c3
  have d0 := (S2.out.live (w.heap.size + 1 + 1, zero4) (by simp)).c0
  have d1 := (S2.out.live (w.heap.size + 1 + 1, zero4) (by simp)).c1
  have d2 := (S2.out.live (w.heap.size + 1 + 1, zero4) (by simp)).c2
  have d3 := (S2.out.live (w.heap.size + 1 + 1, zero4) (by simp)).c3
  obtain ⟨f0, f1, f2, f3⟩ := (S2.out.wrt (w.heap.size + 1 + 1) (by simp)).1
  go_wp2_with fail
  refine bodyPost_ret (v := .agg #[.int .u64 s.x0, .int .u64 s.x1, .int .u64 s.x2, .int .u64 s.x3]) (by simp [results, Tryz.results52, go_sem, d0, d1, d2, d3]) rfl ⟨rfl, ?_⟩
  exact set4_below _ _ _ S2.out.bel (by omega)
 | false =>
  have mi2 := Hn (mi.out rfl)
  clear be pl mi LO KSt
  go_upto_region 3 with fail
  have SD := Hn S2.out.drew
  have x0 : _ = _ := (SD.out.live (P, s) (by simp)).c0
  have x1 : _ = _ := (SD.out.live (P, s) (by simp)).c1
  have x2 : _ = _ := (SD.out.live (P, s) (by simp)).c2
  have x3 : _ = _ := (SD.out.live (P, s) (by simp)).c3
  go_region_with (first | (go_at_call 93; with_reducible refine (rl.out _).mono ?_; rintro e wm ⟨rfl, hb⟩; have S3 := SD.out.keep hb; have y0 := (S3.live (P, s) (by simp)).c0; have y1 := (S3.live (P, s) (by simp)).c1; have y2 := (S3.live (P, s) (by simp)).c2; have y3 := (S3.live (P, s) (by simp)).c3; have S4 := Hn S3; clear S3 hb) | (go_at_call 94; with_reducible refine (mi2.out _).mono ?_; rintro e wn ⟨rfl, hb⟩; have S5 := S4.out.keep hb; have z0 := (S5.live (P, s) (by simp)).c0; have z1 := (S5.live (P, s) (by simp)).c1; have z2 := (S5.live (P, s) (by simp)).c2; have z3 := (S5.live (P, s) (by simp)).c3; obtain ⟨f0, f1, f2, f3⟩ := (S5.wrt P (by simp)).1; have S6 := Hn (S5.set (b := P) (M := [(w.heap.size + 1 + 1, zero4)]) t (old := s) (by simp) (by have := S5.bel.size; omega) (by simp; omega)); clear S5 hb))
  all_goals
   clear x0 x1 x2 x3 y0 y1 y2 y3 z0 z1 z2 z3 f0 f1 f2 f3 S4 SD S2
   simp only [set4_eq] at *
   generalize set4 _ P t = wE at S6 ⊢
   have x0 := (S6.out.live (P, t) (by simp)).c0
   have x1 := (S6.out.live (P, t) (by simp)).c1
   have x2 := (S6.out.live (P, t) (by simp)).c2
   have x3 := (S6.out.live (P, t) (by simp)).c3
   have d0 := (S6.out.live (w.heap.size + 1 + 1, zero4) (by simp)).c0
   have d1 := (S6.out.live (w.heap.size + 1 + 1, zero4) (by simp)).c1
   have d2 := (S6.out.live (w.heap.size + 1 + 1, zero4) (by simp)).c2
   have d3 := (S6.out.live (w.heap.size + 1 + 1, zero4) (by simp)).c3
   obtain ⟨f0, f1, f2, f3⟩ := (S6.out.wrt (w.heap.size + 1 + 1) (by simp)).1
   go_wp2_with fail
   refine bodyPost_ret (v := .agg #[.int .u64 t.x0, .int .u64 t.x1, .int .u64 t.x2, .int .u64 t.x3]) (by simp [results, Tryz.results52, go_sem, d0, d1, d2, d3]) rfl ⟨rfl, ?_⟩
   exact set4_below _ _ _ S6.out.bel (by omega)
end Go.Proofs.YtghcfcglakbkeaaGreatDoor
namespace Go.Proofs.YtghcfcglakbkeaaGreatDoor
open Go.RowKit
def hv (a : E4) (j : Nat) : Int := if j % 2 = 0 then a.get (j / 2) % 4294967296 else a.get (j / 2) / 4294967296
theorem hv_even (a : E4) (k : Nat) : hv a (2 * k) = a.get k % 4294967296 := by
 unfold hv
 rw [if_pos (by omega), show 2 * k / 2 = k by omega]
theorem hv_odd (a : E4) (k : Nat) : hv a (2 * k + 1) = a.get k / 4294967296 := by
 unfold hv
 rw [if_neg (by omega), show (2 * k + 1) / 2 = k by omega]
theorem hv_bd (a : E4) (h : a.ok) (j : Nat) : 0 ≤ hv a j ∧ hv a j < 4294967296 := by
 have hw := E4.get_wd h (j / 2)
 unfold Sm.Wd at hw
 unfold hv
 split <;> omega
theorem hv_sum (a : E4) : hv a 0 + hv a 1 * 4294967296 + (hv a 2 + hv a 3 * 4294967296) * 18446744073709551616 + (hv a 4 + hv a 5 * 4294967296) * 340282366920938463463374607431768211456 + (hv a 6 + hv a 7 * 4294967296) * 6277101735386680763835789423207666416102355444464034512896 = a.n := by
 simp only [hv, Nat.reduceMod, Nat.reduceDiv, E4.get, E4.n, Sm.V]
 simp
 omega
structure HvW (w0 : World) (a : E4) (m : Nat) (w : World) : Prop where
 av : Blc w w0.heap.size a
 bt : ∀ j, j < 8 → w.cell? ⟨w0.heap.size + 1 + 1, j, none⟩ = some (.int .u64 (if j < m then hv a j else 0))
 fr : ∀ j, j < 8 → w.frozen? ⟨w0.heap.size + 1 + 1, j, none⟩ = false
 rs : ∀ j, j < 8 → w.cell? ⟨w0.heap.size + 1, j, none⟩ = some (.int .u64 0)
 rf : ∀ j, j < 8 → w.frozen? ⟨w0.heap.size + 1, j, none⟩ = false
 bel : Below w0.heap.size w0 w
theorem HvW.step {w0 : World} {a : E4} {m : Nat} {w : World} (h : HvW w0 a m w) (hm : m < 8) : HvW w0 a (m + 1) (w.setCell ⟨w0.heap.size + 1 + 1, m, none⟩ (.int .u64 (hv a m))) := by
 refine ⟨h.av.far1 (by omega) _ _, fun j hj => ?_, fun j hj => by have := h.fr j hj; go_simp, fun j hj => (World.cell?_setCell_far w _ _ _ (by show w0.heap.size + 1 + 1 ≠ w0.heap.size + 1; omega)).trans (h.rs j hj), fun j hj => by have := h.rf j hj; go_simp, h.bel.setCell (by show w0.heap.size ≤ w0.heap.size + 1 + 1; omega) _⟩
 by_cases hjk : j = m
 ·subst hjk
  have hb := h.bt j hj
  rw [if_pos (by omega)]
  go_simp
 ·rw [World.cell?_setCell_other w _ _ _ (by intro e; exact hjk (congrArg Addr.off e).symm), h.bt j hj]
  by_cases hlt : j < m
  ·rw [if_pos hlt, if_pos (by omega)]
  ·rw [if_neg hlt, if_neg (by omega)]
set_option maxRecDepth 100000 in
set_option maxHeartbeats 8000000 in
theorem rhalves_any (a : E4) (w : World) (ha : a.ok) :
  Calls Tryz.prog 88 #[a.v] w fun e w' => e = .returned (.agg #[.int .u64 (hv a 0), .int .u64 (hv a 1), .int .u64 (hv a 2), .int .u64 (hv a 3), .int .u64 (hv a 4), .int .u64 (hv a 5), .int .u64 (hv a 6), .int .u64 (hv a 7)]) ∧ Below w.heap.size w w' := by
 have HA := Hn ha
 obtain ⟨h0, e0⟩ : ∃ h, Hid (hv a 0 = h) := ⟨_, Hn rfl⟩
 obtain ⟨h1, e1⟩ : ∃ h, Hid (hv a 1 = h) := ⟨_, Hn rfl⟩
 obtain ⟨h2, e2⟩ : ∃ h, Hid (hv a 2 = h) := ⟨_, Hn rfl⟩
 obtain ⟨h3, e3⟩ : ∃ h, Hid (hv a 3 = h) := ⟨_, Hn rfl⟩
 obtain ⟨h4, e4⟩ : ∃ h, Hid (hv a 4 = h) := ⟨_, Hn rfl⟩
 obtain ⟨h5, e5⟩ : ∃ h, Hid (hv a 5 = h) := ⟨_, Hn rfl⟩
 obtain ⟨h6, e6⟩ : ∃ h, Hid (hv a 6 = h) := ⟨_, Hn rfl⟩
 obtain ⟨h7, e7⟩ : ∃ h, Hid (hv a 7 = h) := ⟨_, Hn rfl⟩
 rw [e0.out, e1.out, e2.out, e3.out, e4.out, e5.out, e6.out, e7.out]
 have s0 : HvW w a 0 (((w.alloc (.cells #[.int .u64 a.x0, .int .u64 a.x1, .int .u64 a.x2, .int .u64 a.x3] 52)).alloc (.cells #[.int .u64 0, .int .u64 0, .int .u64 0, .int .u64 0, .int .u64 0, .int .u64 0, .int .u64 0, .int .u64 0] 150)).alloc (.cells #[.int .u64 0, .int .u64 0, .int .u64 0, .int .u64 0, .int .u64 0, .int .u64 0, .int .u64 0, .int .u64 0] 150)) := by
  refine ⟨((Blc.new w a _).keep (bl_alloc _ _)).keep (bl_alloc _ _), fun j hj => ?_, fun j hj => ?_, fun j hj => ?_, fun j hj => ?_, bl_alloc3 _ _ _ _⟩
  ·rw [if_neg (by omega)]
   have h8 : j = 0 ∨ j = 1 ∨ j = 2 ∨ j = 3 ∨ j = 4 ∨ j = 5 ∨ j = 6 ∨ j = 7 := by omega
   rcases h8 with rfl | rfl | rfl | rfl | rfl | rfl | rfl | rfl <;> go_simp
  ·go_simp
  ·have h8 : j = 0 ∨ j = 1 ∨ j = 2 ∨ j = 3 ∨ j = 4 ∨ j = 5 ∨ j = 6 ∨ j = 7 := by omega
   rcases h8 with rfl | rfl | rfl | rfl | rfl | rfl | rfl | rfl <;> go_simp
  ·go_simp
 have S0 := Hn s0
 clear s0 ha
 simp only [E4.v]
 go_enter Tryz.func88, Tryz.ntmps88
 go_wp2_with fail
 go_loopw [4] (fun i w' => ∃ k : Nat, k ≤ 4 ∧ i = .int .i64 k ∧ HvW w a (2 * k) w') (fun i _ => 4 - (intOf i).toNat)
 case atStart => exact ⟨0, by omega, rfl, S0.out⟩
 case round =>
  obtain ⟨k, hk, rfl, hst⟩ := hrel
  clear S0
  by_cases hk4 : k < 4
  ·have kk0 : (0 : Int) ≤ (k : Int) := by omega
   have kk1 : (k : Int) < 4 := by omega
   have xw := E4.get_wd HA.out k
   unfold Sm.Wd at xw
   have n1 := hst.step (by omega)
   rw [hv_even] at n1
   have n2 := n1.step (by omega)
   rw [hv_odd] at n2
   have A0 := and32 (a.get k) xw.1 (by omega)
   have ca := hst.av.get k hk4
   have cb := hst.bt (2 * k) (by omega)
   have fb := hst.fr (2 * k) (by omega)
   have cd := n1.bt (2 * k + 1) (by omega)
   have fd := n1.fr (2 * k + 1) (by omega)
   have ce := n1.av.get k hk4
   rw [if_neg (by omega)] at cb cd
   have NX := Hn n2
   have hi1 : (2 * (k : Int)).toNat = 2 * k := by omega
   have hi2 : (2 * (k : Int) + 1).toNat = 2 * k + 1 := by omega
   have hi3 : IntKind.i64.wrap (2 * (k : Int)) = 2 * (k : Int) := IntWalk.i64_in _ (by omega)
   have hi4 : IntKind.i64.wrap (2 * (k : Int) + 1) = 2 * (k : Int) + 1 := IntWalk.i64_in _ (by omega)
   clear hst n1 n2
   generalize a.get k = x at *
   go_wp2_with fail
   go_roundw
   case rel => exact ⟨k + 1, by omega, by go_num, NX.out⟩
   case measure => simp [intOf]; omega
  ·have hkk : k = 4 := by omega
   subst hkk
   have c0 := hst.bt 0 (by omega)
   rw [if_pos (by omega), e0.out] at c0
   have d0 := hst.rs 0 (by omega)
   have f0 := hst.rf 0 (by omega)
   have c1 := hst.bt 1 (by omega)
   rw [if_pos (by omega), e1.out] at c1
   have d1 := hst.rs 1 (by omega)
   have f1 := hst.rf 1 (by omega)
   have c2 := hst.bt 2 (by omega)
   rw [if_pos (by omega), e2.out] at c2
   have d2 := hst.rs 2 (by omega)
   have f2 := hst.rf 2 (by omega)
   have c3 := hst.bt 3 (by omega)
   rw [if_pos (by omega), e3.out] at c3
   have d3 := hst.rs 3 (by omega)
   have f3 := hst.rf 3 (by omega)
   have c4 := hst.bt 4 (by omega)
   rw [if_pos (by omega), e4.out] at c4
   have d4 := hst.rs 4 (by omega)
   have f4 := hst.rf 4 (by omega)
   have c5 := hst.bt 5 (by omega)
   rw [if_pos (by omega), e5.out] at c5
   have d5 := hst.rs 5 (by omega)
   have f5 := hst.rf 5 (by omega)
   have c6 := hst.bt 6 (by omega)
   rw [if_pos (by omega), e6.out] at c6
   have d6 := hst.rs 6 (by omega)
   have f6 := hst.rf 6 (by omega)
   have c7 := hst.bt 7 (by omega)
   rw [if_pos (by omega), e7.out] at c7
   have d7 := hst.rs 7 (by omega)
   have f7 := hst.rf 7 (by omega)
   have BE := Hn hst.bel
   clear hst
   rw [show ((4 : Nat) : Int) = 4 from rfl]
   go_wp2_with fail
   refine bodyPost_ret (v := .agg #[.int .u64 h0, .int .u64 h1, .int .u64 h2, .int .u64 h3, .int .u64 h4, .int .u64 h5, .int .u64 h6, .int .u64 h7]) (by simp [results, Tryz.results88, go_sem, d0, d1, d2, d3, d4, d5, d6, d7]) rfl ⟨rfl, ?_⟩
   have hb : w.heap.size ≤ w.heap.size + 1 := by omega
   iterate 8 refine Below.setCell ?_ hb _
   exact BE.out
end Go.Proofs.YtghcfcglakbkeaaGreatDoor
namespace Go.Proofs.YtghcfcglakbkeaaGreatDoor
open Go.RowKit
def nv (f : Nat → Int) : Nat → Int
 | 0 => 0
 | m + 1 => nv f m + f m * 4294967296 ^ m
theorem nv_succ (f : Nat → Int) (m : Nat) : nv f (m + 1) = nv f m + f m * 4294967296 ^ m := rfl
def upd (f : Nat → Int) (j : Nat) (v : Int) (i : Nat) : Int := if i = j then v else f i
theorem upd_at (f : Nat → Int) (j : Nat) (v : Int) : upd f j v j = v := if_pos rfl
theorem upd_ne (f : Nat → Int) (j : Nat) (v : Int) {i : Nat} (h : i ≠ j) : upd f j v i = f i := if_neg h
theorem nv_out (f : Nat → Int) (j : Nat) (v : Int) (m : Nat) (h : m ≤ j) : nv (upd f j v) m = nv f m := by
 induction m with
 | zero => rfl
 | succ m ih => rw [nv, nv, ih (by omega), upd_ne f j v (by omega)]
theorem nv_upd (f : Nat → Int) (j : Nat) (v : Int) (m : Nat) (h : j < m) : nv (upd f j v) m = nv f m + (v - f j) * 4294967296 ^ j := by
 induction m with
 | zero => omega
 | succ m ih =>
  rw [nv, nv]
  by_cases hj : j = m
  ·subst hj
   rw [nv_out f j v j (Nat.le_refl _), upd_at, Int.sub_mul]
   omega
  ·rw [ih (by omega), upd_ne f j v (by omega)]
   omega
theorem nv_zero (m : Nat) : nv (fun _ => 0) m = 0 := by
 induction m with
 | zero => rfl
 | succ m ih => rw [nv, ih]; omega
theorem nv_hv (a : E4) : nv (hv a) 8 = a.n := by
 rw [← hv_sum]
 simp only [nv]
 generalize hv a 0 = h0
 generalize hv a 1 = h1
 generalize hv a 2 = h2
 generalize hv a 3 = h3
 generalize hv a 4 = h4
 generalize hv a 5 = h5
 generalize hv a 6 = h6
 generalize hv a 7 = h7
 omega
def tv (f : Nat → Int) : Nat → Int
 | 0 => 0
 | d + 1 => f (15 - d) + 4294967296 * tv f d
theorem tv_nv (f : Nat → Int) : tv f 16 = nv f 16 := by
 simp only [nv, tv, Nat.reduceSub]
 generalize f 0 = f0
 generalize f 1 = f1
 generalize f 2 = f2
 generalize f 3 = f3
 generalize f 4 = f4
 generalize f 5 = f5
 generalize f 6 = f6
 generalize f 7 = f7
 generalize f 8 = f8
 generalize f 9 = f9
 generalize f 10 = f10
 generalize f 11 = f11
 generalize f 12 = f12
 generalize f 13 = f13
 generalize f 14 = f14
 generalize f 15 = f15
 omega
structure Mo (x y P : Nat → Int) (i : Nat) : Prop where
 s : nv P 16 = nv x i * nv y 8
 b : ∀ j, 0 ≤ P j ∧ P j < 4294967296
 z : ∀ j, i + 8 ≤ j → P j = 0
structure Mi (x y P : Nat → Int) (c : Int) (i k : Nat) : Prop where
 s : nv P 16 + c * 4294967296 ^ (i + k) = nv x i * nv y 8 + x i * nv y k * 4294967296 ^ i
 b : ∀ j, 0 ≤ P j ∧ P j < 4294967296
 z : ∀ j, i + 8 ≤ j → P j = 0
 c0 : 0 ≤ c
 c1 : c < 4294967296
theorem Mo.start (x y : Nat → Int) : Mo x y (fun _ => 0) 0 := ⟨by rw [nv_zero]; simp [nv], fun _ => by omega, fun _ _ => rfl⟩
theorem Mo.inner {x y P : Nat → Int} {i : Nat} (h : Mo x y P i) : Mi x y P 0 i 0 := ⟨by rw [h.s]; simp [nv], h.b, h.z, by omega, by omega⟩
def mt (x y P : Nat → Int) (c : Int) (i k : Nat) : Int := x i * y k + P (i + k) + c
theorem Mi.bd {x y P : Nat → Int} {c : Int} {i k : Nat} (h : Mi x y P c i k) (hx : 0 ≤ x i ∧ x i < 4294967296) (hy : 0 ≤ y k ∧ y k < 4294967296) :
  0 ≤ x i * y k ∧ x i * y k ≤ 18446744065119617025 ∧ 0 ≤ mt x y P c i k ∧ mt x y P c i k < 18446744073709551616 := by
 have p0 := Int.mul_nonneg hx.1 hy.1
 have p1 : x i * y k ≤ 4294967295 * 4294967295 := Int.mul_le_mul (by omega) (by omega) hy.1 (by omega)
 have := h.b (i + k)
 have := h.c0
 have := h.c1
 unfold mt
 omega
theorem Mi.next {x y P : Nat → Int} {c : Int} {i k : Nat} (h : Mi x y P c i k) (hi : i < 8) (hk : k < 8) (hx : 0 ≤ x i ∧ x i < 4294967296) (hy : 0 ≤ y k ∧ y k < 4294967296) :
  Mi x y (upd P (i + k) (mt x y P c i k % 4294967296)) (mt x y P c i k / 4294967296) i (k + 1) := by
 have hb := h.bd hx hy
 refine ⟨?_, fun j => ?_, fun j hj => ?_, ?_, ?_⟩
 ·rw [nv_upd _ _ _ _ (by omega), nv_succ y k, show i + (k + 1) = i + k + 1 by omega, Int.pow_succ 4294967296 (i + k)]
  have e : mt x y P c i k = 4294967296 * (mt x y P c i k / 4294967296) + mt x y P c i k % 4294967296 := by omega
  have e2 : (mt x y P c i k % 4294967296 - P (i + k)) * 4294967296 ^ (i + k) + mt x y P c i k / 4294967296 * (4294967296 ^ (i + k) * 4294967296) = (x i * y k + c) * 4294967296 ^ (i + k) := by
   have : mt x y P c i k % 4294967296 = x i * y k + P (i + k) + c - 4294967296 * (mt x y P c i k / 4294967296) := by
    have u : mt x y P c i k = x i * y k + P (i + k) + c := rfl
    omega
   rw [this]
   generalize mt x y P c i k / 4294967296 = q
   generalize (4294967296 : Int) ^ (i + k) = Q
   generalize x i * y k = m
   generalize P (i + k) = p
   rw [show m + p + c - 4294967296 * q - p = m + c - 4294967296 * q by omega, Int.sub_mul, show q * (Q * 4294967296) = 4294967296 * q * Q by rw [Int.mul_comm Q, ← Int.mul_assoc, Int.mul_comm q]]
   omega
  rw [Int.add_assoc, e2, Int.mul_add, Int.add_mul (x i * nv y k), ← Int.add_assoc (nv x i * nv y 8), ← h.s, Int.add_mul, show x i * (y k * 4294967296 ^ k) * 4294967296 ^ i = x i * y k * 4294967296 ^ (i + k) by rw [Int.pow_add, ← Int.mul_assoc, Int.mul_assoc (x i * y k), Int.mul_comm (4294967296 ^ k)]]
  omega
 ·by_cases hj : j = i + k
  ·subst hj
   rw [upd_at]
   omega
  ·rw [upd_ne _ _ _ hj]
   exact h.b j
 ·rw [upd_ne _ _ _ (by omega)]
  exact h.z j hj
 ·omega
 ·omega
theorem Mi.close {x y P : Nat → Int} {c : Int} {i : Nat} (h : Mi x y P c i 8) (hi : i < 8) : Mo x y (upd P (i + 8) c) (i + 1) := by
 refine ⟨?_, fun j => ?_, fun j hj => ?_⟩
 ·rw [nv_upd _ _ _ _ (by omega), h.z (i + 8) (by omega), Int.sub_zero, h.s, nv_succ x i, Int.add_mul, Int.mul_assoc (x i), Int.mul_comm (nv y 8), Int.mul_assoc (x i)]
 ·by_cases hj : j = i + 8
  ·subst hj
   rw [upd_at]
   exact ⟨h.c0, h.c1⟩
  ·rw [upd_ne _ _ _ hj]
   exact h.b j
 ·rw [upd_ne _ _ _ (by omega)]
  exact h.z j (by omega)
theorem Mo.all {a b : E4} {P : Nat → Int} (h : Mo (hv a) (hv b) P 8) : tv P 16 = a.n * b.n := by
 rw [tv_nv, h.s, nv_hv, nv_hv]
theorem tv_next {f : Nat → Int} {d : Nat} {r s t : E4} (hr : r.is (tv f d)) (hs : s.is (65536 * r.n + f (15 - d) / 65536)) (ht : t.is (65536 * s.n + f (15 - d) % 65536)) : t.is (tv f (d + 1)) := by
 refine is_of ht ?_
 have e1 : (65536 * s.n + f (15 - d) % 65536) % Sm.L = (65536 * (65536 * r.n + f (15 - d) / 65536) + f (15 - d) % 65536) % Sm.L := by
  rw [Int.add_emod, Int.mul_emod, hs.m, ← Int.mul_emod, ← Int.add_emod]
 rw [e1, show 65536 * (65536 * r.n + f (15 - d) / 65536) + f (15 - d) % 65536 = f (15 - d) + 4294967296 * r.n by omega, tv, Int.add_emod, Int.mul_emod, hr.m, ← Int.mul_emod, ← Int.add_emod]
structure Rw (w : World) (b n : Nat) (f : Nat → Int) : Prop where
 c : ∀ j, j < n → w.cell? ⟨b, j, none⟩ = some (.int .u64 (f j))
 fr : ∀ j, j < n → w.frozen? ⟨b, j, none⟩ = false
theorem Rw.lt {w : World} {b n : Nat} {f : Nat → Int} (h : Rw w b n f) (hn : 0 < n) : b < w.heap.size := World.block_lt_of_cell? w ⟨b, 0, none⟩ (h.c 0 hn)
theorem Rw.keep {w1 w2 : World} {b n : Nat} {f : Nat → Int} (h : Rw w1 b n f) (hn : 0 < n) (hb : Below w1.heap.size w1 w2) : Rw w2 b n f :=
 ⟨fun j hj => cell_keep (h.c j hj) hb, fun j hj => ((bcell hb).2 _ _ (h.lt hn)).trans (h.fr j hj)⟩
theorem Rw.drew {w : World} {b n : Nat} {f : Nat → Int} (h : Rw w b n f) (hn : 0 < n) : Rw w.drew b n f := h.keep hn ((Below.refl _ _).drew)
theorem Rw.far {w : World} {b n : Nat} {f : Nat → Int} (h : Rw w b n f) {c : Nat} (hne : c ≠ b) (k : Nat) (v : Value) : Rw (w.setCell ⟨c, k, none⟩ v) b n f :=
 ⟨fun j hj => (World.cell?_setCell_far w _ _ _ hne).trans (h.c j hj), fun j hj => by have := h.fr j hj; go_simp⟩
theorem Rw.far4 {w : World} {b n : Nat} {f : Nat → Int} (h : Rw w b n f) {c : Nat} (hne : c ≠ b) (s : E4) : Rw (set4 w c s) b n f :=
 (((h.far hne 0 _).far hne 1 _).far hne 2 _).far hne 3 _
theorem Rw.at {w : World} {b n : Nat} {f : Nat → Int} (h : Rw w b n f) (k : Nat) (hk : k < n) (v : Int) : Rw (w.setCell ⟨b, k, none⟩ (.int .u64 v)) b n (upd f k v) := by
 refine ⟨fun j hj => ?_, fun j hj => by have := h.fr j hj; go_simp⟩
 by_cases hjk : j = k
 ·subst hjk
  have hb := h.c j hj
  rw [upd_at]
  go_simp
 ·rw [World.cell?_setCell_other w _ _ _ (by intro e; exact hjk (congrArg Addr.off e).symm), h.c j hj, upd_ne _ _ _ hjk]
end Go.Proofs.YtghcfcglakbkeaaGreatDoor
