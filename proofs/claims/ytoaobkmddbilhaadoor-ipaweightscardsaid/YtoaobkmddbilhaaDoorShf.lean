import Derived.Test.YtoaobkmddbilhaaDoorSim
namespace Go.Proofs.YtoaobkmddbilhaaDoor
open Go.RowKit

theorem and1h (u : Int) (h0 : 0 ≤ u) (h1 : u ≤ 18446744073709551615) : bits .and .u64 u 1 = u % 2 := by
  rw [u64_and u 1 h0 (by omega) (by omega) (by omega)]
  have : u.toNat &&& (1 : Int).toNat = u.toNat % 2 := Nat.and_two_pow_sub_one_eq_mod u.toNat 1
  rw [this]; omega
theorem half_math (M : Int) (h0 : 0 ≤ M) (h1 : M < 28948022309329048855892746252171976963317496166410141009864396001978282409984) (he : M % 2 = 0) :
    bits .or .u64 (Sm.lim 0 M / 2) (IntKind.u64.wrap (Sm.lim 1 M * 9223372036854775808)) = Sm.lim 0 (M / 2) ∧
    bits .or .u64 (Sm.lim 1 M / 2) (IntKind.u64.wrap (Sm.lim 2 M * 9223372036854775808)) = Sm.lim 1 (M / 2) ∧
    bits .or .u64 (Sm.lim 2 M / 2) (IntKind.u64.wrap (Sm.lim 3 M * 9223372036854775808)) = Sm.lim 2 (M / 2) ∧
    bits .or .u64 (Sm.lim 3 M / 2) 0 = Sm.lim 3 (M / 2) := by
  have e := Sm.V_lim M h0 (by omega)
  have a0 := Sm.lim_wd 0 M
  have a1 := Sm.lim_wd 1 M
  have a2 := Sm.lim_wd 2 M
  have a3 := Sm.lim_wd 3 M
  generalize Sm.lim 0 M = x0 at *
  generalize Sm.lim 1 M = x1 at *
  generalize Sm.lim 2 M = x2 at *
  generalize Sm.lim 3 M = x3 at *
  unfold Sm.Wd at *
  simp only [IntKind.wrap_u64]
  have e1 : x1 * 9223372036854775808 % 18446744073709551616 = (x1 % 2) * 2 ^ 63 := by simp only [Int.reducePow]; omega
  have e2 : x2 * 9223372036854775808 % 18446744073709551616 = (x2 % 2) * 2 ^ 63 := by simp only [Int.reducePow]; omega
  have e3 : x3 * 9223372036854775808 % 18446744073709551616 = (x3 % 2) * 2 ^ 63 := by simp only [Int.reducePow]; omega
  have e4 : (0 : Int) = 0 * 2 ^ 63 := by omega
  rw [e1, e2, e3]
  rw [or_parts 63 _ _ (by omega) (by simp only [Int.reducePow]; omega) (by omega) (by simp only [Int.reducePow]; omega) (by omega), or_parts 63 _ _ (by omega) (by simp only [Int.reducePow]; omega) (by omega) (by simp only [Int.reducePow]; omega) (by omega), or_parts 63 _ _ (by omega) (by simp only [Int.reducePow]; omega) (by omega) (by simp only [Int.reducePow]; omega) (by omega)]
  rw [show bits .or .u64 (x3 / 2) 0 = x3 / 2 + 0 * 2 ^ 63 from or_parts 63 0 _ (by omega) (by simp only [Int.reducePow]; omega) (by omega) (by omega) (by omega)]
  simp only [Int.reducePow]
  unfold Sm.V at e
  refine Sm.lim_of _ _ _ _ _ 0 ?_ ?_ ?_ ?_ ?_
  · unfold Sm.Wd; omega
  · unfold Sm.Wd; omega
  · unfold Sm.Wd; omega
  · unfold Sm.Wd; omega
  · unfold Sm.V; omega
def hk4 (s h : E4) : Nat → E4
  | 0 => s
  | 1 => ⟨h.x0, s.x1, s.x2, s.x3⟩
  | 2 => ⟨h.x0, h.x1, s.x2, s.x3⟩
  | _ => ⟨h.x0, h.x1, h.x2, s.x3⟩
theorem limE_low (n : Int) : (limE n).x0 % 2 = n % 2 := by
  show Sm.lim 0 n % 2 = n % 2
  unfold Sm.lim
  simp
  try omega

set_option maxRecDepth 100000 in
set_option maxHeartbeats 8000000 in
theorem rhalf_any (n : Int) (w : World) (h0 : 0 ≤ n) (h1 : n ≤ Sm.L) :
    Calls Tryd.prog 58 #[(limE n).v] w fun e w' => e = .returned (limE (hN n)).v ∧ Below w.heap.size w w' := by
  obtain ⟨a, hA⟩ : ∃ t : E4, limE n = t := ⟨_, rfl⟩
  obtain ⟨s, hS⟩ : ∃ t : E4, limE (n + n % 2 * Sm.L) = t := ⟨_, rfl⟩
  obtain ⟨h, hH⟩ : ∃ t : E4, limE (hN n) = t := ⟨_, rfl⟩
  have hLb := L_big
  have an : a.n = n := by rw [← hA]; exact limE_n n h0 (by omega)
  have hodd : Sm.L % 2 = 1 := by decide
  have hM0 : 0 ≤ n + n % 2 * Sm.L := by unfold Sm.L at *; omega
  have hM1 : n + n % 2 * Sm.L < 28948022309329048855892746252171976963317496166410141009864396001978282409984 := by unfold Sm.L at *; omega
  have hMe : (n + n % 2 * Sm.L) % 2 = 0 := by unfold Sm.L at *; omega
  obtain ⟨m0, m1, m2, m3⟩ := half_math _ hM0 hM1 hMe
  have q0 : Sm.lim 0 (n + n % 2 * Sm.L) = s.x0 := by rw [← hS]; rfl
  have q1 : Sm.lim 1 (n + n % 2 * Sm.L) = s.x1 := by rw [← hS]; rfl
  have q2 : Sm.lim 2 (n + n % 2 * Sm.L) = s.x2 := by rw [← hS]; rfl
  have q3 : Sm.lim 3 (n + n % 2 * Sm.L) = s.x3 := by rw [← hS]; rfl
  have r0 : Sm.lim 0 ((n + n % 2 * Sm.L) / 2) = h.x0 := by rw [← hH]; rfl
  have r1 : Sm.lim 1 ((n + n % 2 * Sm.L) / 2) = h.x1 := by rw [← hH]; rfl
  have r2 : Sm.lim 2 ((n + n % 2 * Sm.L) / 2) = h.x2 := by rw [← hH]; rfl
  have r3 : Sm.lim 3 ((n + n % 2 * Sm.L) / 2) = h.x3 := by rw [← hH]; rfl
  rw [q0, q1, r0] at m0
  rw [q1, q2, r1] at m1
  rw [q2, q3, r2] at m2
  rw [q3, r3] at m3
  have sw : s.ok := by rw [← hS]; exact limE_ok _
  have aw : a.ok := by rw [← hA]; exact limE_ok _
  have lo : bits .and .u64 a.x0 1 = n % 2 := by
    have := aw.1
    unfold Sm.Wd at this
    rw [and1h a.x0 this.1 (by omega), ← hA, limE_low]
  have ev : Hid (n % 2 = 0 → s = a) := hidden (fun k => by rw [← hS, ← hA, k]; congr 1; omega)
  have pl : Hid (n % 2 = 1 → ∀ w, Calls Tryd.prog 68 #[a.v, lE.v] w fun e w' => e = .returned (.tuple #[s.v, .int .u64 0]) ∧ Below w.heap.size w w') := hidden (fun k w => by
    have c := rplus_any a lE w aw lE_ok
    rw [an, lE_n, show n + Sm.L = n + n % 2 * Sm.L by rw [k]; omega, hS, show (n + n % 2 * Sm.L) / 115792089237316195423570985008687907853269984665640564039457584007913129639936 = 0 by omega] at c
    exact c)
  have rl := hidden rl_any
  have s0 := ((St.start w a 69).room 69).roomR a 69
  simp only [World.size_alloc] at s0
  have S0 := hidden s0
  have SW := hidden sw
  rw [hA, hH]
  obtain ⟨b, hb⟩ : ∃ b, n % 2 = b := ⟨_, rfl⟩
  have b01 : b = 0 ∨ b = 1 := by omega
  rw [hb] at lo ev pl
  clear s0 hA hS hH hLb an hodd hM0 hM1 hMe q0 q1 q2 q3 r0 r1 r2 r3 sw aw hb h0 h1
  simp only [E4.v, lE] at pl rl ⊢
  go_enter Tryd.func58, Tryd.ntmps58
  go_upto_region 3 with fail
  generalize (((w.alloc (.cells #[.int .u64 a.x0, .int .u64 a.x1, .int .u64 a.x2, .int .u64 a.x3] 69)).alloc (.cells #[.int .u64 0, .int .u64 0, .int .u64 0, .int .u64 0] 69)).alloc (.cells #[.int .u64 a.x0, .int .u64 a.x1, .int .u64 a.x2, .int .u64 a.x3] 69)) = wB at S0 ⊢
  have c0 := (S0.out.live (w.heap.size + 1 + 1, a) (by simp)).c0
  go_upto_if 10 with fail
  go_cut [4] (fun vx wx => vx = .int .u64 0 ∧ St w [(w.heap.size + 1 + 1, s), (w.heap.size + 1, zero4)] [w.heap.size + 1 + 1, w.heap.size + 1] wx)
  case first =>
    rcases b01 with rfl | rfl
    · have e := ev.out rfl
      go_wp2_with fail
      go_meet
      subst e
      exact ⟨rfl, S0.out.sub (by simp)⟩
    · have PL := hidden (pl.out rfl)
      have SD := hidden (S0.out.sub (M := [(w.heap.size + 1 + 1, a), (w.heap.size + 1, zero4)]) (by simp)).drew
      have x0 : wB.drew.cell? ⟨w.heap.size + 1 + 1, 0, none⟩ = some (.int .u64 a.x0) := (SD.out.live (w.heap.size + 1 + 1, a) (by simp)).c0
      have x1 : wB.drew.cell? ⟨w.heap.size + 1 + 1, 1, none⟩ = some (.int .u64 a.x1) := (SD.out.live (w.heap.size + 1 + 1, a) (by simp)).c1
      have x2 : wB.drew.cell? ⟨w.heap.size + 1 + 1, 2, none⟩ = some (.int .u64 a.x2) := (SD.out.live (w.heap.size + 1 + 1, a) (by simp)).c2
      have x3 : wB.drew.cell? ⟨w.heap.size + 1 + 1, 3, none⟩ = some (.int .u64 a.x3) := (SD.out.live (w.heap.size + 1 + 1, a) (by simp)).c3
      clear S0 c0
      go_upto_region 4 with fail
      go_region_with (first | (go_at_call 57; with_reducible refine (rl.out _).mono ?_; rintro e wl ⟨rfl, hbl⟩; have SL := SD.out.keep hbl; have y0 := (SL.live (w.heap.size + 1 + 1, a) (by simp)).c0; have y1 := (SL.live (w.heap.size + 1 + 1, a) (by simp)).c1; have y2 := (SL.live (w.heap.size + 1 + 1, a) (by simp)).c2; have y3 := (SL.live (w.heap.size + 1 + 1, a) (by simp)).c3; have HL := hidden SL; clear SL hbl) | (go_at_call 68; with_reducible refine (PL.out _).mono ?_; rintro e wz ⟨rfl, hb⟩; have S2 := HL.out.keep hb; have z0 := (S2.live (w.heap.size + 1 + 1, a) (by simp)).c0; have z1 := (S2.live (w.heap.size + 1 + 1, a) (by simp)).c1; have z2 := (S2.live (w.heap.size + 1 + 1, a) (by simp)).c2; have z3 := (S2.live (w.heap.size + 1 + 1, a) (by simp)).c3; obtain ⟨f0, f1, f2, f3⟩ := (S2.wrt (w.heap.size + 1 + 1) (by simp)).1; have S3 := hidden (S2.set (b := w.heap.size + 1 + 1) (M := [(w.heap.size + 1, zero4)]) s (old := a) (by simp) (by omega) (by simp)); clear S2 hb))
      all_goals
        clear x0 x1 x2 x3
        go_wp2_with fail
        go_meet
        exact ⟨rfl, S3.out⟩
  case rest =>
  obtain ⟨rfl, s1⟩ := hcut
  have S1 := hidden s1
  clear s1 S0 c0 rl pl ev lo b01
  go_wp2_with fail
  go_loopw [5] (fun iv w' => ∃ k : Nat, k ≤ 3 ∧ iv = .int .i64 k ∧ St w [(w.heap.size + 1 + 1, hk4 s h k), (w.heap.size + 1, zero4)] [w.heap.size + 1 + 1, w.heap.size + 1] w') (fun i _ => 3 - (intOf i).toNat)
  case atStart => exact ⟨0, by omega, rfl, S1.out⟩
  case round =>
    obtain ⟨k, hk, rfl, hst⟩ := hrel
    have ST := hidden hst
    clear S1 hst
    obtain ⟨w0, w1, w2, w3⟩ := SW.out
    unfold Sm.Wd at w0 w1 w2 w3
    by_cases hk3 : k < 3
    · obtain rfl | rfl | rfl : k = 0 ∨ k = 1 ∨ k = 2 := by omega
      · rw [show ((0 : Nat) : Int) = 0 from rfl]
        have ra : wr.drew.cell? ⟨w.heap.size + 1 + 1, 0, none⟩ = some (.int .u64 s.x0) := (ST.out.live (w.heap.size + 1 + 1, hk4 s h 0) (by simp)).drew.c0
        have rb : wr.drew.cell? ⟨w.heap.size + 1 + 1, 1, none⟩ = some (.int .u64 s.x1) := (ST.out.live (w.heap.size + 1 + 1, hk4 s h 0) (by simp)).drew.c1
        have of := ((ST.out.drew).wrt (w.heap.size + 1 + 1) (by simp)).1.f0
        have hwi : IntKind.i64.wrap 1 = 1 := IntWalk.i64_in _ (by omega)
        have PU := hidden (ST.out.drew.put (b := w.heap.size + 1 + 1) (o := hk4 s h 0) (M := [(w.heap.size + 1, zero4)]) 0 (by omega) h.x0 (by simp) (by omega) (by simp))
        go_upto_region 8 with fail
        go_region_with fail
        all_goals
          clear ra rb of
          go_wp2_with fail
          go_roundw
          case rel => exact ⟨0 + 1, by omega, by go_num, PU.out⟩
          case measure => simp [intOf]
      · rw [show ((1 : Nat) : Int) = 1 from rfl]
        have ra : wr.drew.cell? ⟨w.heap.size + 1 + 1, 1, none⟩ = some (.int .u64 s.x1) := (ST.out.live (w.heap.size + 1 + 1, hk4 s h 1) (by simp)).drew.c1
        have rb : wr.drew.cell? ⟨w.heap.size + 1 + 1, 2, none⟩ = some (.int .u64 s.x2) := (ST.out.live (w.heap.size + 1 + 1, hk4 s h 1) (by simp)).drew.c2
        have of := ((ST.out.drew).wrt (w.heap.size + 1 + 1) (by simp)).1.f1
        have hwi : IntKind.i64.wrap 2 = 2 := IntWalk.i64_in _ (by omega)
        have PU := hidden (ST.out.drew.put (b := w.heap.size + 1 + 1) (o := hk4 s h 1) (M := [(w.heap.size + 1, zero4)]) 1 (by omega) h.x1 (by simp) (by omega) (by simp))
        go_upto_region 8 with fail
        go_region_with fail
        all_goals
          clear ra rb of
          go_wp2_with fail
          go_roundw
          case rel => exact ⟨1 + 1, by omega, by go_num, PU.out⟩
          case measure => simp [intOf]
      · rw [show ((2 : Nat) : Int) = 2 from rfl]
        have ra : wr.drew.cell? ⟨w.heap.size + 1 + 1, 2, none⟩ = some (.int .u64 s.x2) := (ST.out.live (w.heap.size + 1 + 1, hk4 s h 2) (by simp)).drew.c2
        have rb : wr.drew.cell? ⟨w.heap.size + 1 + 1, 3, none⟩ = some (.int .u64 s.x3) := (ST.out.live (w.heap.size + 1 + 1, hk4 s h 2) (by simp)).drew.c3
        have of := ((ST.out.drew).wrt (w.heap.size + 1 + 1) (by simp)).1.f2
        have hwi : IntKind.i64.wrap 3 = 3 := IntWalk.i64_in _ (by omega)
        have PU := hidden (ST.out.drew.put (b := w.heap.size + 1 + 1) (o := hk4 s h 2) (M := [(w.heap.size + 1, zero4)]) 2 (by omega) h.x2 (by simp) (by omega) (by simp))
        go_upto_region 8 with fail
        go_region_with fail
        all_goals
          clear ra rb of
          go_wp2_with fail
          go_roundw
          case rel => exact ⟨2 + 1, by omega, by go_num, PU.out⟩
          case measure => simp [intOf]
    · have hkk : k = 3 := by omega
      subst hkk
      rw [show ((3 : Nat) : Int) = 3 from rfl]
      have c3 : wr.cell? ⟨w.heap.size + 1 + 1, 3, none⟩ = some (.int .u64 s.x3) := (ST.out.live (w.heap.size + 1 + 1, hk4 s h 3) (by simp)).c3
      have g3 := (ST.out.wrt (w.heap.size + 1 + 1) (by simp)).1.f3
      have PU := hidden (ST.out.put (b := w.heap.size + 1 + 1) (o := hk4 s h 3) (M := [(w.heap.size + 1, zero4)]) 3 (by omega) h.x3 (by simp) (by omega) (by simp))
      have wz : IntKind.u64.wrap 0 = 0 := by decide
      clear ST
      go_upto_region 9 with fail
      go_cut [] (fun wx => St w [(w.heap.size + 1 + 1, h), (w.heap.size + 1, zero4)] [w.heap.size + 1 + 1, w.heap.size + 1] wx)
      case first =>
        go_wp2_with fail
        go_meet
        exact PU.out
      case rest =>
      have ST := hidden hcut
      clear hcut PU c3 g3
      have v0 := (ST.out.live (w.heap.size + 1 + 1, h) (by simp)).c0
      have v1 := (ST.out.live (w.heap.size + 1 + 1, h) (by simp)).c1
      have v2 := (ST.out.live (w.heap.size + 1 + 1, h) (by simp)).c2
      have v3 := (ST.out.live (w.heap.size + 1 + 1, h) (by simp)).c3
      have d0 := (ST.out.live (w.heap.size + 1, zero4) (by simp)).c0
      have d1 := (ST.out.live (w.heap.size + 1, zero4) (by simp)).c1
      have d2 := (ST.out.live (w.heap.size + 1, zero4) (by simp)).c2
      have d3 := (ST.out.live (w.heap.size + 1, zero4) (by simp)).c3
      obtain ⟨f0, f1, f2, f3⟩ := (ST.out.wrt (w.heap.size + 1) (by simp)).1
      go_wp2_with fail
      refine bodyPost_ret (v := .agg #[.int .u64 h.x0, .int .u64 h.x1, .int .u64 h.x2, .int .u64 h.x3]) (by simp [results, Tryd.results58, go_sem, d0, d1, d2, d3]) rfl ⟨rfl, ?_⟩
      exact set4_below _ _ _ ST.out.bel (by omega)
end Go.Proofs.YtoaobkmddbilhaaDoor
