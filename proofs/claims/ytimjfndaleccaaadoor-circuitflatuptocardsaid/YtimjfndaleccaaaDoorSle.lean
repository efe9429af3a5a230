import Derived.Test.YtimjfndaleccaaaDoorSlo
namespace Go.Proofs.YtimjfndaleccaaaDoor
open Go.RowKit
theorem xmask1 (r a : Int) (hr : Sm.Wd r) (ha : Sm.Wd a) : bits .xor .u64 r (bits .and .u64 18446744073709551615 (bits .xor .u64 r a)) = a := by
 obtain ⟨R, rfl⟩ := Int.eq_ofNat_of_zero_le hr.1
 obtain ⟨A, rfl⟩ := Int.eq_ofNat_of_zero_le ha.1
 have hR : R < 18446744073709551616 := by have := hr.2; omega
 have hA : A < 18446744073709551616 := by have := ha.2; omega
 have hx : R ^^^ A < 18446744073709551616 := Nat.xor_lt_two_pow (n := 64) hR hA
 rw [u64_xor_nat R A hR hA]
 have e1 := u64_and_nat 18446744073709551615 (R ^^^ A) (by omega) hx
 have e2 : 18446744073709551615 &&& (R ^^^ A) = R ^^^ A := by
  rw [Nat.and_comm]
  exact (Nat.and_two_pow_sub_one_eq_mod _ 64).trans (Nat.mod_eq_of_lt hx)
 rw [e2] at e1
 have e3 : ((18446744073709551615 : Nat) : Int) = 18446744073709551615 := rfl
 rw [e3] at e1
 rw [e1, u64_xor_nat R _ hR hx, ← Nat.xor_assoc, Nat.xor_self, Nat.zero_xor]
theorem xmask0 (r a : Int) (hr : Sm.Wd r) (ha : Sm.Wd a) : bits .xor .u64 r (bits .and .u64 0 (bits .xor .u64 r a)) = r := by
 obtain ⟨R, rfl⟩ := Int.eq_ofNat_of_zero_le hr.1
 obtain ⟨A, rfl⟩ := Int.eq_ofNat_of_zero_le ha.1
 have hR : R < 18446744073709551616 := by have := hr.2; omega
 have hA : A < 18446744073709551616 := by have := ha.2; omega
 have hx : R ^^^ A < 18446744073709551616 := Nat.xor_lt_two_pow (n := 64) hR hA
 rw [u64_xor_nat R A hR hA]
 have e1 := u64_and_nat 0 (R ^^^ A) (by omega) hx
 rw [Nat.zero_and] at e1
 have e3 : ((0 : Nat) : Int) = 0 := rfl
 rw [e3] at e1
 have e4 := u64_xor_nat R 0 hR (by omega)
 rw [Nat.xor_zero, e3] at e4
 rw [e1, e4]
theorem wm1 : IntKind.u64.wrap (-1) = 18446744073709551615 := by rw [IntKind.wrap_u64]; rfl
set_option maxHeartbeats 1000000 in
theorem lessOnce_any (a0 a1 a2 a3 : Int) (w : World) (hT : Tb w) (h0 : Sm.Wd a0) (h1 : Sm.Wd a1) (h2 : Sm.Wd a2) (h3 : Sm.Wd a3) (hn : Sm.V a0 a1 a2 a3 < 2 * Sm.L) :
  Calls Tryd.prog 46 #[.int .u64 a0, .int .u64 a1, .int .u64 a2, .int .u64 a3] w fun e w' => e = .returned (lt (Sm.V a0 a1 a2 a3 % Sm.L)) ∧ w' = w := by
 obtain ⟨t0, t1, t2, t3, -⟩ := hT
 have hVb := Sm.V_bd a0 a1 a2 a3 h0 h1 h2 h3
 have hVi := Sm.V_inj h0 h1 h2 h3 rfl
 obtain ⟨⟨m0, m1, m2, m3⟩, mu⟩ := Sm.sub_math a0 a1 a2 a3 6346243789798364141 1503914060200516822 0 1152921504606846976 _ _ _ rfl rfl rfl
 have hL : Sm.V 6346243789798364141 1503914060200516822 0 1152921504606846976 = Sm.L := rfl
 rw [hL] at m0 m1 m2 m3 mu
 have w0 : Sm.Wd 6346243789798364141 := by unfold Sm.Wd; omega
 have w1 : Sm.Wd 1503914060200516822 := by unfold Sm.Wd; omega
 have w2 : Sm.Wd 0 := by unfold Sm.Wd; omega
 have w3 : Sm.Wd 1152921504606846976 := by unfold Sm.Wd; omega
 have B0 := Sm.borrow a0 6346243789798364141 0 h0 w0 (by omega) (by omega)
 have A0 := sub64_run a0 6346243789798364141 0 h0 w0 (by omega) (by omega)
 have B1 := Sm.borrow a1 1503914060200516822 _ h1 w1 B0.1 B0.2
 have A1 := sub64_run a1 1503914060200516822 _ h1 w1 B0.1 B0.2
 have B2 := Sm.borrow a2 0 _ h2 w2 B1.1 B1.2
 have A2 := sub64_run a2 0 _ h2 w2 B1.1 B1.2
 have A3 := sub64_run a3 1152921504606846976 _ h3 w3 B2.1 B2.2
 rw [m0] at A0
 rw [m1] at A1
 rw [m2] at A2
 rw [m3, mu] at A3
 clear m0 m1 m2 m3 mu hL w0 w1 w2 w3 B0 B1 B2
 have l0 := Sm.lim_wd 0 (Sm.V a0 a1 a2 a3 - Sm.L)
 have l1 := Sm.lim_wd 1 (Sm.V a0 a1 a2 a3 - Sm.L)
 have l2 := Sm.lim_wd 2 (Sm.V a0 a1 a2 a3 - Sm.L)
 have l3 := Sm.lim_wd 3 (Sm.V a0 a1 a2 a3 - Sm.L)
 by_cases hc : Sm.V a0 a1 a2 a3 < Sm.L
 ·have eu : -((Sm.V a0 a1 a2 a3 - Sm.L) / 115792089237316195423570985008687907853269984665640564039457584007913129639936) = 1 := by unfold Sm.L at *; omega
  rw [eu] at A3
  have em : Sm.V a0 a1 a2 a3 % Sm.L = Sm.V a0 a1 a2 a3 := Int.emod_eq_of_lt hVb.1 hc
  rw [em]
  unfold lt
  rw [← hVi.1, ← hVi.2.1, ← hVi.2.2.1, ← hVi.2.2.2]
  have x0 := xmask1 _ _ l0 h0
  have x1 := xmask1 _ _ l1 h1
  have x2 := xmask1 _ _ l2 h2
  have x3 := xmask1 _ _ l3 h3
  clear eu em hVb hVi hn hc l0 l1 l2 l3 h0 h1 h2 h3
  generalize Sm.V a0 a1 a2 a3 - Sm.L = n at *
  generalize -((a2 - 0 - -((a1 - 1503914060200516822 - -((a0 - 6346243789798364141 - 0) / 18446744073709551616)) / 18446744073709551616)) / 18446744073709551616) = c3 at *
  generalize -((a1 - 1503914060200516822 - -((a0 - 6346243789798364141 - 0) / 18446744073709551616)) / 18446744073709551616) = c2 at *
  generalize -((a0 - 6346243789798364141 - 0) / 18446744073709551616) = c1 at *
  generalize Sm.lim 0 n = r0 at *
  generalize Sm.lim 1 n = r1 at *
  generalize Sm.lim 2 n = r2 at *
  generalize Sm.lim 3 n = r3 at *
  go_enter Tryd.func46, Tryd.ntmps46
  go_wp2_with fail
  exact bodyPost_ret (v := .tuple #[.int .u64 a0, .int .u64 a1, .int .u64 a2, .int .u64 a3]) (by simp [results, Tryd.results46, go_sem, wm1, x0, x1, x2, x3]) rfl ⟨rfl, rfl⟩
 ·have eu : -((Sm.V a0 a1 a2 a3 - Sm.L) / 115792089237316195423570985008687907853269984665640564039457584007913129639936) = 0 := by unfold Sm.L at *; omega
  rw [eu] at A3
  have em : Sm.V a0 a1 a2 a3 % Sm.L = Sm.V a0 a1 a2 a3 - Sm.L := by unfold Sm.L at *; omega
  rw [em]
  unfold lt
  have x0 := xmask0 _ _ l0 h0
  have x1 := xmask0 _ _ l1 h1
  have x2 := xmask0 _ _ l2 h2
  have x3 := xmask0 _ _ l3 h3
  clear eu em hVb hVi hn hc l0 l1 l2 l3 h0 h1 h2 h3
  generalize Sm.V a0 a1 a2 a3 - Sm.L = n at *
  generalize -((a2 - 0 - -((a1 - 1503914060200516822 - -((a0 - 6346243789798364141 - 0) / 18446744073709551616)) / 18446744073709551616)) / 18446744073709551616) = c3 at *
  generalize -((a1 - 1503914060200516822 - -((a0 - 6346243789798364141 - 0) / 18446744073709551616)) / 18446744073709551616) = c2 at *
  generalize -((a0 - 6346243789798364141 - 0) / 18446744073709551616) = c1 at *
  generalize Sm.lim 0 n = r0 at *
  generalize Sm.lim 1 n = r1 at *
  generalize Sm.lim 2 n = r2 at *
  generalize Sm.lim 3 n = r3 at *
  go_enter Tryd.func46, Tryd.ntmps46
  go_wp2_with fail
  exact bodyPost_ret (v := .tuple #[.int .u64 r0, .int .u64 r1, .int .u64 r2, .int .u64 r3]) (by simp [results, Tryd.results46, go_sem]) rfl ⟨rfl, rfl⟩
set_option maxHeartbeats 1000000 in
theorem least_raw (a0 a1 a2 a3 : Int) (w : World) (hT : Tb w) (h0 : Sm.Wd a0) (h1 : Sm.Wd a1) (h2 : Sm.Wd a2) (h3 : Sm.Wd a3) :
  Calls Tryd.prog 44 #[.int .u64 a0, .int .u64 a1, .int .u64 a2, .int .u64 a3] w fun e w' => e = .returned (lt (Sm.V a0 a1 a2 a3 % Sm.L)) ∧ w' = w := by
 obtain ⟨q0, q1, hm0, hm1⟩ := Sm.least_math a0 a1 a2 a3 h0 h1 h2 h3 _ rfl
 have hT' := hT
 obtain ⟨t0, t1, -⟩ := hT'
 have b3 := h3
 unfold Sm.Wd at b3
 have K1 : 0 ≤ a3 / 1152921504606846976 ∧ a3 / 1152921504606846976 ≤ 15 := by omega
 have hqW : Sm.Wd (a3 / 1152921504606846976 - (a3 / 1152921504606846976 + 15) / 16) := by unfold Sm.Wd; omega
 have w0 : Sm.Wd 6346243789798364141 := by unfold Sm.Wd; omega
 have w1 : Sm.Wd 1503914060200516822 := by unfold Sm.Wd; omega
 have HT := hidden hT
 unfold lt
 clear hT
 go_enter Tryd.func44, Tryd.ntmps44
 go_wp2_with fail
 refine (mul64_any _ _ hqW w0 _).mono ?_
 rintro e w' ⟨rfl, rfl⟩
 clear K1 b3
 generalize a3 / 1152921504606846976 - (a3 / 1152921504606846976 + 15) / 16 = q at *
 have M1 := hidden (mul64_any q 1503914060200516822 hqW w1)
 obtain ⟨tm, v0, v1, v2, v3⟩ := Sm.times_math q q0 q1 _ _ rfl rfl
 obtain ⟨⟨m0, m1, m2, m3⟩, -⟩ := Sm.sub_math a0 a1 a2 a3 (q * 6346243789798364141 % 18446744073709551616) ((q * 1503914060200516822 % 18446744073709551616 + q * 6346243789798364141 / 18446744073709551616 + 0) % 18446744073709551616) (q * 1503914060200516822 / 18446744073709551616 + (q * 1503914060200516822 % 18446744073709551616 + q * 6346243789798364141 / 18446744073709551616 + 0) / 18446744073709551616) (q * 1152921504606846976) _ _ _ rfl rfl rfl
 rw [← tm] at m0 m1 m2 m3
 have B0 := Sm.borrow a0 _ 0 h0 v0 (by omega) (by omega)
 have S0 := sub64_run a0 _ 0 h0 v0 (by omega) (by omega)
 have B1 := Sm.borrow a1 _ _ h1 v1 B0.1 B0.2
 have S1 := sub64_run a1 _ _ h1 v1 B0.1 B0.2
 have B2 := Sm.borrow a2 _ _ h2 v2 B1.1 B1.2
 have S2 := sub64_run a2 _ _ h2 v2 B1.1 B1.2
 have S3 := sub64_run a3 _ _ h3 v3 B2.1 B2.2
 have A0 := add64_run (q * 1503914060200516822 % 18446744073709551616) (q * 6346243789798364141 / 18446744073709551616) 0 (by omega) (by omega) (by omega) (by omega)
 rw [m0] at S0
 rw [m1] at S1
 rw [m2] at S2
 rw [m3] at S3
 have e2 : IntKind.u64.wrap (q * 1503914060200516822 / 18446744073709551616 + (q * 1503914060200516822 % 18446744073709551616 + q * 6346243789798364141 / 18446744073709551616 + 0) / 18446744073709551616) = q * 1503914060200516822 / 18446744073709551616 + (q * 1503914060200516822 % 18446744073709551616 + q * 6346243789798364141 / 18446744073709551616 + 0) / 18446744073709551616 := by rw [IntKind.wrap_u64]; omega
 have e3 : IntKind.u64.wrap (q * 1152921504606846976) = q * 1152921504606846976 := by rw [IntKind.wrap_u64]; omega
 have hk : 0 ≤ Sm.V a0 a1 a2 a3 - q * Sm.L ∧ Sm.V a0 a1 a2 a3 - q * Sm.L < 115792089237316195423570985008687907853269984665640564039457584007913129639936 := by unfold Sm.L at *; omega
 have hV := Sm.V_lim _ hk.1 hk.2
 have LO := hidden (lessOnce_any (Sm.lim 0 (Sm.V a0 a1 a2 a3 - q * Sm.L)) (Sm.lim 1 (Sm.V a0 a1 a2 a3 - q * Sm.L)) (Sm.lim 2 (Sm.V a0 a1 a2 a3 - q * Sm.L)) (Sm.lim 3 (Sm.V a0 a1 a2 a3 - q * Sm.L)) w' HT.out (Sm.lim_wd _ _) (Sm.lim_wd _ _) (Sm.lim_wd _ _) (Sm.lim_wd _ _) (by rw [hV]; exact hm1))
 rw [hV] at LO
 have hmod : (Sm.V a0 a1 a2 a3 - q * Sm.L) % Sm.L = Sm.V a0 a1 a2 a3 % Sm.L := by rw [Int.sub_eq_add_neg, ← Int.neg_mul, Int.add_mul_emod_self_right]
 rw [hmod] at LO
 unfold lt at LO
 generalize hN : Sm.V a0 a1 a2 a3 % Sm.L = N at LO
 generalize Sm.V a0 a1 a2 a3 - q * Sm.L = n at *
 unfold Sm.Wd at v2 v3
 clear hmod hV hk hm0 hm1 tm m0 m1 m2 m3 B0 B1 B2 h0 h1 h2 h3 v0 v1 w0 w1 hqW
 generalize q * 1503914060200516822 / 18446744073709551616 = y1h at *
 generalize q * 1503914060200516822 % 18446744073709551616 = y1l at *
 generalize q * 6346243789798364141 / 18446744073709551616 = y0h at *
 generalize q * 6346243789798364141 % 18446744073709551616 = y0l at *
 generalize (y1l + y0h + 0) % 18446744073709551616 = x1 at *
 generalize (y1l + y0h + 0) / 18446744073709551616 = cc at *
 generalize -((a0 - y0l - 0) / 18446744073709551616) = c1 at *
 generalize -((a1 - x1 - c1) / 18446744073709551616) = c2 at *
 generalize -((a2 - (y1h + cc) - c2) / 18446744073709551616) = c3 at *
 generalize -((a3 - q * 1152921504606846976 - c3) / 18446744073709551616) = c4 at *
 go_wp2_with fail
 refine (M1.out _).mono ?_
 rintro e w' ⟨rfl, rfl⟩
 clear M1
 go_wp2_with fail
 refine LO.out.mono ?_
 rintro e w' ⟨rfl, rfl⟩
 clear LO
 go_wp2_with fail
 exact bodyPost_ret (v := .tuple #[.int .u64 (Sm.lim 0 N), .int .u64 (Sm.lim 1 N), .int .u64 (Sm.lim 2 N), .int .u64 (Sm.lim 3 N)]) (by simp [results, Tryd.results44, go_sem]) rfl ⟨by rw [hN], rfl⟩
end Go.Proofs.YtimjfndaleccaaaDoor
