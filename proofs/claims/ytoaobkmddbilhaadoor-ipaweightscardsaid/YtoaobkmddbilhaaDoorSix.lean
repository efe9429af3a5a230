import Derived.Test.YtoaobkmddbilhaaDoorShf
import Derived.Test.YtoaobkmddbilhaaDoorSrv
import Derived.Test.YtoaobkmddbilhaaDoorSse
import Derived.Deep.LoopGhost
namespace Go.Proofs.YtoaobkmddbilhaaDoor
open Go.RowKit

theorem lst_limE (n : Int) : lst n = limE (n % Sm.L) := rfl
theorem limE_lstX {X : Int} (h : 0 ≤ X ∧ X < Sm.L) : limE X = lst X := limE_small X h.1 h.2
theorem rhalf_in {n : Int} (h0 : 0 ≤ n) (h1 : n ≤ Sm.L) (w : World) : Calls Tryd.prog 58 #[(limE n).v] w fun e w' => e = .returned (limE (hN n)).v ∧ Below w.heap.size w w' := rhalf_any n w h0 h1
theorem L_256 : Sm.L < 115792089237316195423570985008687907853269984665640564039457584007913129639936 := by decide
theorem limE_in {n : Int} (h0 : 0 ≤ n) (h1 : n ≤ Sm.L) : (limE n).n = n := limE_n n h0 (by have := L_256; omega)
theorem rminus_in {u v : Int} (u0 : 0 ≤ u) (ul : u ≤ Sm.L) (v0 : 0 ≤ v) (vl : v ≤ Sm.L) (w : World) :
    Calls Tryd.prog 60 #[(limE v).v, (limE u).v] w fun e w' => ∃ c : Int, e = .returned (.tuple #[(limE (v - u)).v, .int .u64 c]) ∧ Below w.heap.size w w' := by
  have k := rminus_any (limE v) (limE u) w (limE_ok _) (limE_ok _)
  rw [limE_in v0 vl, limE_in u0 ul] at k
  exact k.mono fun e w' q => ⟨_, q.1, q.2⟩
theorem rbelow_in {u v : Int} (u0 : 0 ≤ u) (ul : u ≤ Sm.L) (v0 : 0 ≤ v) (vl : v ≤ Sm.L) (w : World) :
    Calls Tryd.prog 59 #[(limE u).v, (limE v).v] w fun e w' => e = .returned (.bool (decide (u < v))) ∧ Below w.heap.size w w' := by
  have k := rbelow_any (limE u) (limE v) w (limE_ok _) (limE_ok _)
  rw [limE_in v0 vl, limE_in u0 ul] at k
  exact k
theorem rSub_in {X Y : Int} (hX : 0 ≤ X ∧ X < Sm.L) (hY : 0 ≤ Y ∧ Y < Sm.L) (w : World) :
    Calls Tryd.prog 61 #[(limE Y).v, (limE X).v] w fun e w' => e = .returned (limE ((Y - X) % Sm.L)).v ∧ Below w.heap.size w w' := by
  have k := rSub_any Y X w
  rw [← limE_lstX hX, ← limE_lstX hY, lst_limE (Y - X)] at k
  exact k
theorem same_one {u : Int} (u0 : 0 ≤ u) (ul : u ≤ Sm.L) : (limE u).same k1 = decide (u = 1) := by
  rw [Bool.eq_iff_iff, E4.same_iff, decide_eq_true_iff]
  constructor
  · intro h
    have := congrArg E4.n h
    rw [limE_in u0 ul, k1n] at this
    exact this
  · rintro rfl
    rw [limE_lstX ⟨by decide, by decide⟩, lst1]
theorem low_in (u : Int) : bits .and .u64 (limE u).x0 1 = u % 2 := by
  have := (limE_ok u).1
  unfold Sm.Wd at this
  rw [and1h _ this.1 (by omega), limE_low]

set_option maxRecDepth 100000 in
set_option maxHeartbeats 4000000 in
theorem rInvert_zero (w : World) :
    Calls Tryd.prog 41 #[zero4.v] w fun e w' => e = .returned zero4.v ∧ Below w.heap.size w w' := by
  have iz := hidden (fun w => rIsZero_any zero4 w)
  rw [E4.same_self] at iz
  have s0 := (St.start w zero4 69).room 69
  simp only [World.size_alloc] at s0
  have S0 := hidden s0
  clear s0
  simp only [E4.v, zero4] at iz S0 ⊢
  go_enter Tryd.func41, Tryd.ntmps41
  go_upto_region 1 with fail
  generalize ((w.alloc (.cells #[.int .u64 0, .int .u64 0, .int .u64 0, .int .u64 0] 69)).alloc (.cells #[.int .u64 0, .int .u64 0, .int .u64 0, .int .u64 0] 69)) = wB at S0 ⊢
  have x0 : wB.cell? ⟨w.heap.size, 0, none⟩ = some (.int .u64 0) := (S0.out.live (w.heap.size, ⟨0, 0, 0, 0⟩) (by simp)).c0
  have x1 : wB.cell? ⟨w.heap.size, 1, none⟩ = some (.int .u64 0) := (S0.out.live (w.heap.size, ⟨0, 0, 0, 0⟩) (by simp)).c1
  have x2 : wB.cell? ⟨w.heap.size, 2, none⟩ = some (.int .u64 0) := (S0.out.live (w.heap.size, ⟨0, 0, 0, 0⟩) (by simp)).c2
  have x3 : wB.cell? ⟨w.heap.size, 3, none⟩ = some (.int .u64 0) := (S0.out.live (w.heap.size, ⟨0, 0, 0, 0⟩) (by simp)).c3
  go_wp2_with fail
  refine (iz.out _).mono ?_
  rintro e w1 ⟨rfl, hb1⟩
  have S1 := hidden (S0.out.keep hb1)
  clear x0 x1 x2 x3 hb1 S0 iz
  have x0 : w1.cell? ⟨w.heap.size, 0, none⟩ = some (.int .u64 0) := (S1.out.live (w.heap.size, ⟨0, 0, 0, 0⟩) (by simp)).c0
  have x1 : w1.cell? ⟨w.heap.size, 1, none⟩ = some (.int .u64 0) := (S1.out.live (w.heap.size, ⟨0, 0, 0, 0⟩) (by simp)).c1
  have x2 : w1.cell? ⟨w.heap.size, 2, none⟩ = some (.int .u64 0) := (S1.out.live (w.heap.size, ⟨0, 0, 0, 0⟩) (by simp)).c2
  have x3 : w1.cell? ⟨w.heap.size, 3, none⟩ = some (.int .u64 0) := (S1.out.live (w.heap.size, ⟨0, 0, 0, 0⟩) (by simp)).c3
  have d0 : w1.cell? ⟨w.heap.size + 1, 0, none⟩ = some (.int .u64 0) := (S1.out.live (w.heap.size + 1, ⟨0, 0, 0, 0⟩) (by simp)).c0
  have d1 : w1.cell? ⟨w.heap.size + 1, 1, none⟩ = some (.int .u64 0) := (S1.out.live (w.heap.size + 1, ⟨0, 0, 0, 0⟩) (by simp)).c1
  have d2 : w1.cell? ⟨w.heap.size + 1, 2, none⟩ = some (.int .u64 0) := (S1.out.live (w.heap.size + 1, ⟨0, 0, 0, 0⟩) (by simp)).c2
  have d3 : w1.cell? ⟨w.heap.size + 1, 3, none⟩ = some (.int .u64 0) := (S1.out.live (w.heap.size + 1, ⟨0, 0, 0, 0⟩) (by simp)).c3
  obtain ⟨f0, f1, f2, f3⟩ := (S1.out.wrt (w.heap.size + 1) (by simp)).1
  go_wp2_with fail
  refine bodyPost_ret (v := .agg #[.int .u64 0, .int .u64 0, .int .u64 0, .int .u64 0]) (by simp [results, Tryd.results41, go_sem, d0, d1, d2, d3]) rfl ⟨rfl, ?_⟩
  exact set4_below _ _ zero4 S1.out.bel (by omega)

set_option maxRecDepth 100000 in
set_option maxHeartbeats 16000000 in
theorem rInvert_pos (a : Int) (w : World) (a0 : 0 < a) (a1 : a < Sm.L) :
    Calls Tryd.prog 41 #[(limE a).v] w fun e w' => e = .returned (lst (a ^ 7237005577332262213973186563042994240857116359379907606001950938285454250987)).v ∧ Below w.heap.size w w' := by
  obtain ⟨R, hR⟩ : ∃ R, lst (a ^ 7237005577332262213973186563042994240857116359379907606001950938285454250987) = R := ⟨_, rfl⟩
  rw [hR]
  have RES : Hid (∀ X : Int, 0 ≤ X ∧ X < Sm.L → (1 - a * X) % Sm.L = 0 → limE X = R) := hidden (fun X h k => by
    rw [limE_lstX h, ← hR]
    exact inv_one a X (by rw [Int.emod_eq_of_lt (by omega) a1]; omega) k)
  have IV := hidden (Iv.start a a0 a1)
  have iz := hidden (fun w => rIsZero_any (limE a) w)
  have hz : (limE a).same zero4 = false := by
    rw [Bool.eq_false_iff]
    intro h
    have := congrArg E4.n ((E4.same_iff _ _).1 h)
    rw [limE_in (by omega) (by omega), z4n] at this
    omega
  rw [hz] at iz
  have rl := hidden rl_any
  have I1 := hidden rInt1_any
  have s0 := (St.start w (limE a) 69).room 69
  simp only [World.size_alloc] at s0
  have S0 := hidden s0
  clear s0 hR a0 a1 hz
  simp only [E4.v, k1, lE] at iz rl I1 ⊢
  go_enter Tryd.func41, Tryd.ntmps41
  go_upto_region 1 with fail
  generalize ((w.alloc (.cells #[.int .u64 (limE a).x0, .int .u64 (limE a).x1, .int .u64 (limE a).x2, .int .u64 (limE a).x3] 69)).alloc (.cells #[.int .u64 0, .int .u64 0, .int .u64 0, .int .u64 0] 69)) = wB at S0 ⊢
  have x0 := (S0.out.live (w.heap.size, limE a) (by simp)).c0
  have x1 := (S0.out.live (w.heap.size, limE a) (by simp)).c1
  have x2 := (S0.out.live (w.heap.size, limE a) (by simp)).c2
  have x3 := (S0.out.live (w.heap.size, limE a) (by simp)).c3
  go_wp2_with fail
  refine (iz.out _).mono ?_
  rintro e w1 ⟨rfl, hb1⟩
  have S1 := hidden (S0.out.keep hb1)
  clear x0 x1 x2 x3 hb1 S0 iz
  go_upto_region 3 with fail
  go_cut [3] (fun vx wx => ∃ pu : Nat, vx = .pointer (some ⟨pu, 0, none⟩) ∧ w.heap.size + 1 < pu ∧ St w [(pu, limE a), (w.heap.size + 1, zero4)] [pu, w.heap.size + 1] wx)
  case first =>
    have x0 := (S1.out.live (w.heap.size, limE a) (by simp)).c0
    have x1 := (S1.out.live (w.heap.size, limE a) (by simp)).c1
    have x2 := (S1.out.live (w.heap.size, limE a) (by simp)).c2
    have x3 := (S1.out.live (w.heap.size, limE a) (by simp)).c3
    have hl := (S1.out.live (w.heap.size + 1, zero4) (by simp)).lt
    have s2 := hidden (St.sub (M := [(w1.heap.size, limE a), (w.heap.size + 1, zero4)]) (S1.out.roomR (limE a) 69) (by simp))
    go_wp2_with fail
    go_meet
    exact ⟨_, rfl, hl, s2.out⟩
  case rest =>
  obtain ⟨pu, rfl, hpu, s1⟩ := hcut
  clear S1
  have S1 := hidden s1
  clear s1
  go_upto_region 4 with fail
  go_cut [4] (fun vx wx => ∃ pv : Nat, vx = .pointer (some ⟨pv, 0, none⟩) ∧ pu < pv ∧ St w [(pv, limE Sm.L), (pu, limE a), (w.heap.size + 1, zero4)] [pv, pu, w.heap.size + 1] wx)
  case first =>
    go_wp2_with fail
    refine (rl.out _).mono ?_
    rintro e w2 ⟨rfl, hb⟩
    have s1 := S1.out.keep hb
    have hl := (s1.live (pu, limE a) (by simp)).lt
    have s2 := hidden (s1.roomR lE 69)
    clear hb s1
    go_wp2_with fail
    go_meet
    exact ⟨_, rfl, hl, s2.out⟩
  case rest =>
  obtain ⟨pv, rfl, hpv, s1⟩ := hcut
  clear S1 rl
  have S1 := hidden s1
  clear s1
  go_upto_region 5 with fail
  go_cut [5] (fun vx wx => ∃ px : Nat, vx = .pointer (some ⟨px, 0, none⟩) ∧ pv < px ∧ St w [(px, limE 1), (pv, limE Sm.L), (pu, limE a), (w.heap.size + 1, zero4)] [px, pv, pu, w.heap.size + 1] wx)
  case first =>
    go_wp2_with fail
    refine (I1.out _).mono ?_
    rintro e w2 ⟨rfl, hb⟩
    have s1 := S1.out.keep hb
    have hl := (s1.live (pv, limE Sm.L) (by simp)).lt
    have s2 := hidden (s1.roomR k1 69)
    clear hb s1
    go_wp2_with fail
    go_meet
    exact ⟨_, rfl, hl, s2.out⟩
  case rest =>
  obtain ⟨px, rfl, hpx, s1⟩ := hcut
  clear S1
  have S1 := hidden s1
  clear s1
  go_upto_region 6 with fail
  go_cut [6] (fun vx wx => ∃ py : Nat, vx = .pointer (some ⟨py, 0, none⟩) ∧ px < py ∧ St w [(py, limE 0), (px, limE 1), (pv, limE Sm.L), (pu, limE a), (w.heap.size + 1, zero4)] [py, px, pv, pu, w.heap.size + 1] wx)
  case first =>
    have hl := (S1.out.live (px, limE 1) (by simp)).lt
    have s2 := hidden (S1.out.roomR zero4 69)
    go_wp2_with fail
    go_meet
    exact ⟨_, rfl, hl, s2.out⟩
  case rest =>
  obtain ⟨py, rfl, hpy, s1⟩ := hcut
  clear S1
  have S1 := hidden s1
  clear s1
  go_upto_region 7 with fail
  go_cut [7] (fun vx wx => ∃ p1 : Nat, vx = .pointer (some ⟨p1, 0, none⟩) ∧ py < p1 ∧ St w [(pu, limE a), (pv, limE Sm.L), (px, limE 1), (py, limE 0), (p1, k1), (w.heap.size + 1, zero4)] [pu, pv, px, py, w.heap.size + 1] wx)
  case first =>
    go_wp2_with fail
    refine (I1.out _).mono ?_
    rintro e w2 ⟨rfl, hb⟩
    have s1 := S1.out.keep hb
    have hl := (s1.live (py, limE 0) (by simp)).lt
    have s2 := hidden (s1.roomR k1 69)
    clear hb s1
    go_wp2_with fail
    go_meet
    exact ⟨_, rfl, hl, s2.out.less (by simp) (by simp)⟩
  case rest =>
  obtain ⟨p1, rfl, hp1, s1⟩ := hcut
  clear S1 I1
  have S1 := hidden s1
  clear s1
  go_wp2_with fail
  go_loopg [] (a + Sm.L).toNat (fun g w' => ∃ u v X Y : Int, g = (u + v).toNat ∧ Hid (Iv a u v X Y) ∧ Hid (St w [(pu, limE u), (pv, limE v), (px, limE X), (py, limE Y), (p1, k1), (w.heap.size + 1, zero4)] [pu, pv, px, py, w.heap.size + 1] w'))
  case atStart => exact ⟨a, Sm.L, 1, 0, rfl, IV, S1⟩
  case round =>
    clear IV S1
    obtain ⟨u, v, X, Y, hg, IV, S1⟩ := hrel
    by_cases hu1 : u = 1
    · subst hu1
      have q1 : ∀ w, (Op.equalIn 10000 69 (limE 1).v k1.v).run Tryd.prog w = .ok true w := fun w => by rw [requal, same_one (by decide) (by decide)]; rfl
      simp only [E4.v, k1] at q1
      have l0 := (S1.out.live (pu, limE 1) (by simp)).c0
      have l1 := (S1.out.live (pu, limE 1) (by simp)).c1
      have l2 := (S1.out.live (pu, limE 1) (by simp)).c2
      have l3 := (S1.out.live (pu, limE 1) (by simp)).c3
      have m0 : wr.cell? ⟨p1, 0, none⟩ = some (.int .u64 1) := (S1.out.live (p1, k1) (by simp)).c0
      have m1 : wr.cell? ⟨p1, 1, none⟩ = some (.int .u64 0) := (S1.out.live (p1, k1) (by simp)).c1
      have m2 : wr.cell? ⟨p1, 2, none⟩ = some (.int .u64 0) := (S1.out.live (p1, k1) (by simp)).c2
      have m3 : wr.cell? ⟨p1, 3, none⟩ = some (.int .u64 0) := (S1.out.live (p1, k1) (by simp)).c3
      have er := RES.out X IV.out.X0 IV.out.eu
      have n0 : wr.cell? ⟨px, 0, none⟩ = some (.int .u64 R.x0) := by rw [← er]; exact (S1.out.live (px, limE X) (by simp)).c0
      have n1 : wr.cell? ⟨px, 1, none⟩ = some (.int .u64 R.x1) := by rw [← er]; exact (S1.out.live (px, limE X) (by simp)).c1
      have n2 : wr.cell? ⟨px, 2, none⟩ = some (.int .u64 R.x2) := by rw [← er]; exact (S1.out.live (px, limE X) (by simp)).c2
      have n3 : wr.cell? ⟨px, 3, none⟩ = some (.int .u64 R.x3) := by rw [← er]; exact (S1.out.live (px, limE X) (by simp)).c3
      have d0 := (S1.out.live (w.heap.size + 1, zero4) (by simp)).c0
      have d1 := (S1.out.live (w.heap.size + 1, zero4) (by simp)).c1
      have d2 := (S1.out.live (w.heap.size + 1, zero4) (by simp)).c2
      have d3 := (S1.out.live (w.heap.size + 1, zero4) (by simp)).c3
      obtain ⟨f0, f1, f2, f3⟩ := (S1.out.wrt (w.heap.size + 1) (by simp)).1
      clear er hg
      go_wp2_with fail
      refine bodyPost_ret (v := .agg #[.int .u64 R.x0, .int .u64 R.x1, .int .u64 R.x2, .int .u64 R.x3]) (by simp [results, Tryd.results41, go_sem, d0, d1, d2, d3]) rfl ⟨rfl, ?_⟩
      exact set4_below _ _ _ S1.out.bel (by omega)
    · have q1 : ∀ w, (Op.equalIn 10000 69 (limE u).v k1.v).run Tryd.prog w = .ok false w := fun w => by rw [requal, same_one IV.out.u0 IV.out.ul, decide_eq_false hu1]
      by_cases hv1 : v = 1
      · subst hv1
        have q2 : ∀ w, (Op.equalIn 10000 69 (limE 1).v k1.v).run Tryd.prog w = .ok true w := fun w => by rw [requal, same_one (by decide) (by decide)]; rfl
        simp only [E4.v, k1] at q1 q2
        have l0 := (S1.out.live (pu, limE u) (by simp)).c0
        have l1 := (S1.out.live (pu, limE u) (by simp)).c1
        have l2 := (S1.out.live (pu, limE u) (by simp)).c2
        have l3 := (S1.out.live (pu, limE u) (by simp)).c3
        have y0 := (S1.out.live (pv, limE 1) (by simp)).c0
        have y1 := (S1.out.live (pv, limE 1) (by simp)).c1
        have y2 := (S1.out.live (pv, limE 1) (by simp)).c2
        have y3 := (S1.out.live (pv, limE 1) (by simp)).c3
        have m0 : wr.cell? ⟨p1, 0, none⟩ = some (.int .u64 1) := (S1.out.live (p1, k1) (by simp)).c0
        have m1 : wr.cell? ⟨p1, 1, none⟩ = some (.int .u64 0) := (S1.out.live (p1, k1) (by simp)).c1
        have m2 : wr.cell? ⟨p1, 2, none⟩ = some (.int .u64 0) := (S1.out.live (p1, k1) (by simp)).c2
        have m3 : wr.cell? ⟨p1, 3, none⟩ = some (.int .u64 0) := (S1.out.live (p1, k1) (by simp)).c3
        have er := RES.out Y IV.out.Y0 IV.out.ev
        have n0 : wr.cell? ⟨py, 0, none⟩ = some (.int .u64 R.x0) := by rw [← er]; exact (S1.out.live (py, limE Y) (by simp)).c0
        have n1 : wr.cell? ⟨py, 1, none⟩ = some (.int .u64 R.x1) := by rw [← er]; exact (S1.out.live (py, limE Y) (by simp)).c1
        have n2 : wr.cell? ⟨py, 2, none⟩ = some (.int .u64 R.x2) := by rw [← er]; exact (S1.out.live (py, limE Y) (by simp)).c2
        have n3 : wr.cell? ⟨py, 3, none⟩ = some (.int .u64 R.x3) := by rw [← er]; exact (S1.out.live (py, limE Y) (by simp)).c3
        have d0 := (S1.out.live (w.heap.size + 1, zero4) (by simp)).c0
        have d1 := (S1.out.live (w.heap.size + 1, zero4) (by simp)).c1
        have d2 := (S1.out.live (w.heap.size + 1, zero4) (by simp)).c2
        have d3 := (S1.out.live (w.heap.size + 1, zero4) (by simp)).c3
        obtain ⟨f0, f1, f2, f3⟩ := (S1.out.wrt (w.heap.size + 1) (by simp)).1
        clear er hg
        go_wp2_with fail
        refine bodyPost_ret (v := .agg #[.int .u64 R.x0, .int .u64 R.x1, .int .u64 R.x2, .int .u64 R.x3]) (by simp [results, Tryd.results41, go_sem, d0, d1, d2, d3]) rfl ⟨rfl, ?_⟩
        exact set4_below _ _ _ S1.out.bel (by omega)
      · have q2 : ∀ w, (Op.equalIn 10000 69 (limE v).v k1.v).run Tryd.prog w = .ok false w := fun w => by rw [requal, same_one (by have := IV.out.v0; omega) IV.out.vl, decide_eq_false hv1]
        have up := IV.out.pos hv1
        have vp := IV.out.v0
        simp only [E4.v, k1] at q1 q2
        have l0 := (S1.out.live (pu, limE u) (by simp)).c0
        have l1 := (S1.out.live (pu, limE u) (by simp)).c1
        have l2 := (S1.out.live (pu, limE u) (by simp)).c2
        have l3 := (S1.out.live (pu, limE u) (by simp)).c3
        have y0 := (S1.out.live (pv, limE v) (by simp)).c0
        have y1 := (S1.out.live (pv, limE v) (by simp)).c1
        have y2 := (S1.out.live (pv, limE v) (by simp)).c2
        have y3 := (S1.out.live (pv, limE v) (by simp)).c3
        have m0 : wr.cell? ⟨p1, 0, none⟩ = some (.int .u64 1) := (S1.out.live (p1, k1) (by simp)).c0
        have m1 : wr.cell? ⟨p1, 1, none⟩ = some (.int .u64 0) := (S1.out.live (p1, k1) (by simp)).c1
        have m2 : wr.cell? ⟨p1, 2, none⟩ = some (.int .u64 0) := (S1.out.live (p1, k1) (by simp)).c2
        have m3 : wr.cell? ⟨p1, 3, none⟩ = some (.int .u64 0) := (S1.out.live (p1, k1) (by simp)).c3
        go_wp2_with fail
        clear q1 q2 l0 l1 l2 l3 y0 y1 y2 y3 m0 m1 m2 m3 hu1 hv1
        go_loopg [] u.toNat (fun g w' => ∃ u' X' : Int, g = u'.toNat ∧ u' ≤ u ∧ 0 < u' ∧ Hid (Iv a u' v X' Y) ∧ Hid (St w [(pu, limE u'), (pv, limE v), (px, limE X'), (py, limE Y), (p1, k1), (w.heap.size + 1, zero4)] [pu, pv, px, py, w.heap.size + 1] w'))
        case atStart => exact ⟨u, X, rfl, Int.le_refl _, up, IV, S1⟩
        case round =>
          clear IV S1
          obtain ⟨u', X2, hg', hle, up', IV, S1⟩ := hrel
          have c0 := (S1.out.live (pu, limE u') (by simp)).c0
          have lo := low_in u'
          by_cases he : u' % 2 = 0
          · rw [he] at lo
            have HU := hidden (rhalf_in IV.out.u0 IV.out.ul)
            have HX := hidden (rhalf_in IV.out.X0.1 (Int.le_of_lt IV.out.X0.2))
            have NI := hidden (IV.out.halfu he)
            have HE := hidden (hN_even u' he)
            have HG := hidden hg'
            have HV := hidden he
            simp only [E4.v] at HU HX
            clear IV hg' he
            go_upto_region 10 with fail
            go_cut [] (fun wx => St w [(pu, limE (hN u')), (pv, limE v), (px, limE X2), (py, limE Y), (p1, k1), (w.heap.size + 1, zero4)] [pu, pv, px, py, w.heap.size + 1] wx)
            case first =>
              have l0 := (S1.out.live (pu, limE u') (by simp)).c0
              have l1 := (S1.out.live (pu, limE u') (by simp)).c1
              have l2 := (S1.out.live (pu, limE u') (by simp)).c2
              have l3 := (S1.out.live (pu, limE u') (by simp)).c3
              go_wp2_with fail
              refine (HU.out _).mono ?_
              rintro e wz ⟨rfl, hb⟩
              have s2 := S1.out.keep hb
              have z0 := (s2.live (pu, limE u') (by simp)).c0
              have z1 := (s2.live (pu, limE u') (by simp)).c1
              have z2 := (s2.live (pu, limE u') (by simp)).c2
              have z3 := (s2.live (pu, limE u') (by simp)).c3
              obtain ⟨f0, f1, f2, f3⟩ := (s2.wrt pu (by simp)).1
              have S3 := hidden (s2.set (b := pu) (M := [(pv, limE v), (px, limE X2), (py, limE Y), (p1, k1), (w.heap.size + 1, zero4)]) (limE (hN u')) (old := limE u') (by simp) (by omega) (by simp; omega))
              clear s2 hb l0 l1 l2 l3
              go_wp2_with fail
              go_meet
              exact S3.out.sub (by simp)
            case rest =>
            have S1n := hidden hcut
            clear hcut S1 c0
            have S1 := S1n
            clear S1n
            go_upto_region 11 with fail
            have l0 := (S1.out.live (px, limE X2) (by simp)).c0
            have l1 := (S1.out.live (px, limE X2) (by simp)).c1
            have l2 := (S1.out.live (px, limE X2) (by simp)).c2
            have l3 := (S1.out.live (px, limE X2) (by simp)).c3
            go_wp2_with fail
            refine (HX.out _).mono ?_
            rintro e wz ⟨rfl, hb⟩
            have s2 := S1.out.keep hb
            have z0 := (s2.live (px, limE X2) (by simp)).c0
            have z1 := (s2.live (px, limE X2) (by simp)).c1
            have z2 := (s2.live (px, limE X2) (by simp)).c2
            have z3 := (s2.live (px, limE X2) (by simp)).c3
            obtain ⟨f0, f1, f2, f3⟩ := (s2.wrt px (by simp)).1
            have S3 : Hid (St w [(pu, limE (hN u')), (pv, limE v), (px, limE (hN X2)), (py, limE Y), (p1, k1), (w.heap.size + 1, zero4)] [pu, pv, px, py, w.heap.size + 1] _) := hidden ((s2.set (b := px) (M := [(pu, limE (hN u')), (pv, limE v), (py, limE Y), (p1, k1), (w.heap.size + 1, zero4)]) (limE (hN X2)) (old := limE X2) (by simp) (by omega) (by simp; omega)).sub (by simp))
            clear s2 hb l0 l1 l2 l3
            go_wp2_with fail
            go_roundg (hN u').toNat
            case measure => have := HE.out; have := HG.out; omega
            case rel => exact ⟨hN u', hN X2, rfl, by rw [HE.out]; have := HV.out; omega, by rw [HE.out]; have := HV.out; omega, NI, S3⟩
          · rw [show u' % 2 = 1 by omega] at lo
            go_wp2_with fail
            clear lo c0 he
            go_loopg [] v.toNat (fun g w' => ∃ v' Y' : Int, g = v'.toNat ∧ v' ≤ v ∧ 0 < v' ∧ Hid (Iv a u' v' X2 Y') ∧ Hid (St w [(pu, limE u'), (pv, limE v'), (px, limE X2), (py, limE Y'), (p1, k1), (w.heap.size + 1, zero4)] [pu, pv, px, py, w.heap.size + 1] w'))
            case atStart => exact ⟨v, Y, rfl, Int.le_refl _, vp, IV, S1⟩
            case round =>
              clear IV S1
              obtain ⟨v', Y2, hg2, hle2, vp', IV, S1⟩ := hrel
              have c0 := (S1.out.live (pv, limE v') (by simp)).c0
              have lo := low_in v'
              by_cases he : v' % 2 = 0
              · rw [he] at lo
                have HU := hidden (rhalf_in (Int.le_of_lt IV.out.v0) IV.out.vl)
                have HX := hidden (rhalf_in IV.out.Y0.1 (Int.le_of_lt IV.out.Y0.2))
                have NI := hidden (IV.out.halfv he)
                have HE := hidden (hN_even v' he)
                have HG := hidden hg2
                have HV := hidden he
                simp only [E4.v] at HU HX
                clear IV hg2 he
                go_upto_region 13 with fail
                go_cut [] (fun wx => St w [(pu, limE u'), (pv, limE (hN v')), (px, limE X2), (py, limE Y2), (p1, k1), (w.heap.size + 1, zero4)] [pu, pv, px, py, w.heap.size + 1] wx)
                case first =>
                  have l0 := (S1.out.live (pv, limE v') (by simp)).c0
                  have l1 := (S1.out.live (pv, limE v') (by simp)).c1
                  have l2 := (S1.out.live (pv, limE v') (by simp)).c2
                  have l3 := (S1.out.live (pv, limE v') (by simp)).c3
                  go_wp2_with fail
                  refine (HU.out _).mono ?_
                  rintro e wz ⟨rfl, hb⟩
                  have s2 := S1.out.keep hb
                  have z0 := (s2.live (pv, limE v') (by simp)).c0
                  have z1 := (s2.live (pv, limE v') (by simp)).c1
                  have z2 := (s2.live (pv, limE v') (by simp)).c2
                  have z3 := (s2.live (pv, limE v') (by simp)).c3
                  obtain ⟨f0, f1, f2, f3⟩ := (s2.wrt pv (by simp)).1
                  have S3 := hidden (s2.set (b := pv) (M := [(pu, limE u'), (px, limE X2), (py, limE Y2), (p1, k1), (w.heap.size + 1, zero4)]) (limE (hN v')) (old := limE v') (by simp) (by omega) (by simp; omega))
                  clear s2 hb l0 l1 l2 l3
                  go_wp2_with fail
                  go_meet
                  exact S3.out.sub (by simp)
                case rest =>
                have S1n := hidden hcut
                clear hcut S1 c0
                have S1 := S1n
                clear S1n
                go_upto_region 14 with fail
                have l0 := (S1.out.live (py, limE Y2) (by simp)).c0
                have l1 := (S1.out.live (py, limE Y2) (by simp)).c1
                have l2 := (S1.out.live (py, limE Y2) (by simp)).c2
                have l3 := (S1.out.live (py, limE Y2) (by simp)).c3
                go_wp2_with fail
                refine (HX.out _).mono ?_
                rintro e wz ⟨rfl, hb⟩
                have s2 := S1.out.keep hb
                have z0 := (s2.live (py, limE Y2) (by simp)).c0
                have z1 := (s2.live (py, limE Y2) (by simp)).c1
                have z2 := (s2.live (py, limE Y2) (by simp)).c2
                have z3 := (s2.live (py, limE Y2) (by simp)).c3
                obtain ⟨f0, f1, f2, f3⟩ := (s2.wrt py (by simp)).1
                have S3 : Hid (St w [(pu, limE u'), (pv, limE (hN v')), (px, limE X2), (py, limE (hN Y2)), (p1, k1), (w.heap.size + 1, zero4)] [pu, pv, px, py, w.heap.size + 1] _) := hidden ((s2.set (b := py) (M := [(pu, limE u'), (pv, limE (hN v')), (px, limE X2), (p1, k1), (w.heap.size + 1, zero4)]) (limE (hN Y2)) (old := limE Y2) (by simp) (by omega) (by simp; omega)).sub (by simp))
                clear s2 hb l0 l1 l2 l3
                go_wp2_with fail
                go_roundg (hN v').toNat
                case measure => have := HE.out; have := HG.out; omega
                case rel => exact ⟨hN v', hN Y2, rfl, by rw [HE.out]; have := HV.out; omega, by rw [HE.out]; have := HV.out; omega, NI, S3⟩
              · rw [show v' % 2 = 1 by omega] at lo
                have BL := hidden (rbelow_in IV.out.u0 IV.out.ul (Int.le_of_lt IV.out.v0) IV.out.vl)
                have MV := hidden (rminus_in IV.out.u0 IV.out.ul (Int.le_of_lt IV.out.v0) IV.out.vl)
                have MU := hidden (rminus_in (Int.le_of_lt IV.out.v0) IV.out.vl IV.out.u0 IV.out.ul)
                have SV := hidden (rSub_in IV.out.X0 IV.out.Y0)
                have SU := hidden (rSub_in IV.out.Y0 IV.out.X0)
                simp only [E4.v] at BL MV MU SV SU
                by_cases hb : u' < v'
                · rw [decide_eq_true hb] at BL
                  have NI := hidden (IV.out.subv hb)
                  have HB := hidden hb
                  clear IV hb MU SU he
                  have l0 := (S1.out.live (pu, limE u') (by simp)).c0
                  have l1 := (S1.out.live (pu, limE u') (by simp)).c1
                  have l2 := (S1.out.live (pu, limE u') (by simp)).c2
                  have l3 := (S1.out.live (pu, limE u') (by simp)).c3
                  have m0 := (S1.out.live (pv, limE v') (by simp)).c0
                  have m1 := (S1.out.live (pv, limE v') (by simp)).c1
                  have m2 := (S1.out.live (pv, limE v') (by simp)).c2
                  have m3 := (S1.out.live (pv, limE v') (by simp)).c3
                  go_wp2_with fail
                  refine (BL.out _).mono ?_
                  rintro e wz ⟨rfl, hb⟩
                  have S1n := hidden (S1.out.keep hb)
                  clear S1 hb BL c0 lo l0 l1 l2 l3 m0 m1 m2 m3
                  have S1 := S1n
                  clear S1n
                  go_upto_region 16 with fail
                  go_cut [] (fun wx => St w [(pu, limE u'), (pv, limE (v' - u')), (px, limE X2), (py, limE Y2), (p1, k1), (w.heap.size + 1, zero4)] [pu, pv, px, py, w.heap.size + 1] wx)
                  case first =>
                    have l0 := (S1.out.live (pv, limE v') (by simp)).c0
                    have l1 := (S1.out.live (pv, limE v') (by simp)).c1
                    have l2 := (S1.out.live (pv, limE v') (by simp)).c2
                    have l3 := (S1.out.live (pv, limE v') (by simp)).c3
                    have m0 := (S1.out.live (pu, limE u') (by simp)).c0
                    have m1 := (S1.out.live (pu, limE u') (by simp)).c1
                    have m2 := (S1.out.live (pu, limE u') (by simp)).c2
                    have m3 := (S1.out.live (pu, limE u') (by simp)).c3
                    go_wp2_with fail
                    refine (MV.out _).mono ?_
                    rintro e wz ⟨cc, rfl, hb⟩
                    have s2 := S1.out.keep hb
                    have z0 := (s2.live (pv, limE v') (by simp)).c0
                    have z1 := (s2.live (pv, limE v') (by simp)).c1
                    have z2 := (s2.live (pv, limE v') (by simp)).c2
                    have z3 := (s2.live (pv, limE v') (by simp)).c3
                    obtain ⟨f0, f1, f2, f3⟩ := (s2.wrt pv (by simp)).1
                    have S3 := hidden (s2.set (b := pv) (M := [(pu, limE u'), (px, limE X2), (py, limE Y2), (p1, k1), (w.heap.size + 1, zero4)]) (limE (v' - u')) (old := limE v') (by simp) (by omega) (by simp; omega))
                    clear s2 hb l0 l1 l2 l3 m0 m1 m2 m3
                    go_wp2_with fail
                    go_meet
                    exact S3.out.sub (by simp)
                  case rest =>
                  have S1n := hidden hcut
                  clear hcut S1
                  have S1 := S1n
                  clear S1n
                  go_upto_region 17 with fail
                  have l0 := (S1.out.live (py, limE Y2) (by simp)).c0
                  have l1 := (S1.out.live (py, limE Y2) (by simp)).c1
                  have l2 := (S1.out.live (py, limE Y2) (by simp)).c2
                  have l3 := (S1.out.live (py, limE Y2) (by simp)).c3
                  have m0 := (S1.out.live (px, limE X2) (by simp)).c0
                  have m1 := (S1.out.live (px, limE X2) (by simp)).c1
                  have m2 := (S1.out.live (px, limE X2) (by simp)).c2
                  have m3 := (S1.out.live (px, limE X2) (by simp)).c3
                  go_wp2_with fail
                  refine (SV.out _).mono ?_
                  rintro e wz ⟨rfl, hb⟩
                  have s2 := S1.out.keep hb
                  have z0 := (s2.live (py, limE Y2) (by simp)).c0
                  have z1 := (s2.live (py, limE Y2) (by simp)).c1
                  have z2 := (s2.live (py, limE Y2) (by simp)).c2
                  have z3 := (s2.live (py, limE Y2) (by simp)).c3
                  obtain ⟨f0, f1, f2, f3⟩ := (s2.wrt py (by simp)).1
                  have S3 : Hid (St w [(pu, limE u'), (pv, limE (v' - u')), (px, limE X2), (py, limE ((Y2 - X2) % Sm.L)), (p1, k1), (w.heap.size + 1, zero4)] [pu, pv, px, py, w.heap.size + 1] _) := hidden ((s2.set (b := py) (M := [(pu, limE u'), (pv, limE (v' - u')), (px, limE X2), (p1, k1), (w.heap.size + 1, zero4)]) (limE ((Y2 - X2) % Sm.L)) (old := limE Y2) (by simp) (by omega) (by simp; omega)).sub (by simp))
                  clear s2 hb l0 l1 l2 l3 m0 m1 m2 m3
                  go_wp2_with fail
                  go_roundg (u' + (v' - u')).toNat
                  case measure => omega
                  case rel => exact ⟨u', v' - u', X2, (Y2 - X2) % Sm.L, rfl, NI, S3⟩
                · rw [decide_eq_false hb] at BL
                  have NI := hidden (IV.out.subu hb)
                  have HB := hidden hb
                  clear IV hb MV SV he
                  have l0 := (S1.out.live (pu, limE u') (by simp)).c0
                  have l1 := (S1.out.live (pu, limE u') (by simp)).c1
                  have l2 := (S1.out.live (pu, limE u') (by simp)).c2
                  have l3 := (S1.out.live (pu, limE u') (by simp)).c3
                  have m0 := (S1.out.live (pv, limE v') (by simp)).c0
                  have m1 := (S1.out.live (pv, limE v') (by simp)).c1
                  have m2 := (S1.out.live (pv, limE v') (by simp)).c2
                  have m3 := (S1.out.live (pv, limE v') (by simp)).c3
                  go_wp2_with fail
                  refine (BL.out _).mono ?_
                  rintro e wz ⟨rfl, hb⟩
                  have S1n := hidden (S1.out.keep hb)
                  clear S1 hb BL c0 lo l0 l1 l2 l3 m0 m1 m2 m3
                  have S1 := S1n
                  clear S1n
                  go_upto_region 18 with fail
                  go_cut [] (fun wx => St w [(pu, limE (u' - v')), (pv, limE v'), (px, limE X2), (py, limE Y2), (p1, k1), (w.heap.size + 1, zero4)] [pu, pv, px, py, w.heap.size + 1] wx)
                  case first =>
                    have l0 := (S1.out.live (pu, limE u') (by simp)).c0
                    have l1 := (S1.out.live (pu, limE u') (by simp)).c1
                    have l2 := (S1.out.live (pu, limE u') (by simp)).c2
                    have l3 := (S1.out.live (pu, limE u') (by simp)).c3
                    have m0 := (S1.out.live (pv, limE v') (by simp)).c0
                    have m1 := (S1.out.live (pv, limE v') (by simp)).c1
                    have m2 := (S1.out.live (pv, limE v') (by simp)).c2
                    have m3 := (S1.out.live (pv, limE v') (by simp)).c3
                    go_wp2_with fail
                    refine (MU.out _).mono ?_
                    rintro e wz ⟨cc, rfl, hb⟩
                    have s2 := S1.out.keep hb
                    have z0 := (s2.live (pu, limE u') (by simp)).c0
                    have z1 := (s2.live (pu, limE u') (by simp)).c1
                    have z2 := (s2.live (pu, limE u') (by simp)).c2
                    have z3 := (s2.live (pu, limE u') (by simp)).c3
                    obtain ⟨f0, f1, f2, f3⟩ := (s2.wrt pu (by simp)).1
                    have S3 := hidden (s2.set (b := pu) (M := [(pv, limE v'), (px, limE X2), (py, limE Y2), (p1, k1), (w.heap.size + 1, zero4)]) (limE (u' - v')) (old := limE u') (by simp) (by omega) (by simp; omega))
                    clear s2 hb l0 l1 l2 l3 m0 m1 m2 m3
                    go_wp2_with fail
                    go_meet
                    exact S3.out.sub (by simp)
                  case rest =>
                  have S1n := hidden hcut
                  clear hcut S1
                  have S1 := S1n
                  clear S1n
                  go_upto_region 19 with fail
                  have l0 := (S1.out.live (px, limE X2) (by simp)).c0
                  have l1 := (S1.out.live (px, limE X2) (by simp)).c1
                  have l2 := (S1.out.live (px, limE X2) (by simp)).c2
                  have l3 := (S1.out.live (px, limE X2) (by simp)).c3
                  have m0 := (S1.out.live (py, limE Y2) (by simp)).c0
                  have m1 := (S1.out.live (py, limE Y2) (by simp)).c1
                  have m2 := (S1.out.live (py, limE Y2) (by simp)).c2
                  have m3 := (S1.out.live (py, limE Y2) (by simp)).c3
                  go_wp2_with fail
                  refine (SU.out _).mono ?_
                  rintro e wz ⟨rfl, hb⟩
                  have s2 := S1.out.keep hb
                  have z0 := (s2.live (px, limE X2) (by simp)).c0
                  have z1 := (s2.live (px, limE X2) (by simp)).c1
                  have z2 := (s2.live (px, limE X2) (by simp)).c2
                  have z3 := (s2.live (px, limE X2) (by simp)).c3
                  obtain ⟨f0, f1, f2, f3⟩ := (s2.wrt px (by simp)).1
                  have S3 : Hid (St w [(pu, limE (u' - v')), (pv, limE v'), (px, limE ((X2 - Y2) % Sm.L)), (py, limE Y2), (p1, k1), (w.heap.size + 1, zero4)] [pu, pv, px, py, w.heap.size + 1] _) := hidden ((s2.set (b := px) (M := [(pu, limE (u' - v')), (pv, limE v'), (py, limE Y2), (p1, k1), (w.heap.size + 1, zero4)]) (limE ((X2 - Y2) % Sm.L)) (old := limE X2) (by simp) (by omega) (by simp; omega)).sub (by simp))
                  clear s2 hb l0 l1 l2 l3 m0 m1 m2 m3
                  go_wp2_with fail
                  go_roundg (u' - v' + v').toNat
                  case measure => omega
                  case rel => exact ⟨u' - v', v', (X2 - Y2) % Sm.L, Y2, rfl, NI, S3⟩
theorem rInvert_any (n : Int) (w : World) :
    Calls Tryd.prog 41 #[(lst n).v] w fun e w' => e = .returned (lst (n ^ 7237005577332262213973186563042994240857116359379907606001950938285454250987)).v ∧ Below w.heap.size w w' := by
  by_cases hz : n % Sm.L = 0
  · rw [zero_pow_L n hz, zero_lst, (zero_is n).2 hz]
    exact rInvert_zero w
  · have h := rInvert_pos (n % Sm.L) w (by have := (mod_bd n).1; omega) (mod_bd n).2
    rw [lst_limE n]
    rw [lst_congr (pow_emod _ _ _ (emod_emod_L n))] at h
    exact h
end Go.Proofs.YtoaobkmddbilhaaDoor
