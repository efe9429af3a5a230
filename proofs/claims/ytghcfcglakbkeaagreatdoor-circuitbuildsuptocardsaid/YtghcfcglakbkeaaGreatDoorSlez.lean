import Derived.Test.YtghcfcglakbkeaaGreatDoorSmz
namespace Go.Proofs.YtghcfcglakbkeaaGreatDoor
open Go.RowKit
theorem xmask1 (r a : Int) (hr : Sm.Wd r) (ha : Sm.Wd a) : bits .xor .u64 r (bits .and .u64 18446744073709551615 (bits .xor .u64 r a)) = a := by
 obtain ⟨R, rfl⟩ := Int.eq_ofNat_of_zero_le hr.1
 obtain ⟨A, rfl⟩ := Int.eq_ofNat_of_zero_le ha.1
 have hR : R < 18446744073709551616 := by have := hr.2; omega
 have hA : A < 18446744073709551616 := by have := ha.2; omega
 have hx : R ^^^ A < 18446744073709551616 := Nat.xor_lt_two_pow (n := 64) hR hA
 rw [u64_xor_nat R A hR hA]
 have e1 := u64_and_nat 18446744073709551615 (R ^^^ A) (by omega) hx
 have e2 : 18446744073709551615 &&& (R ^^^ A) = R ^^^ A := by
  rw [Nat.and_comm]
  exact (Nat.and_two_pow_sub_one_eq_mod _ 64).trans (Nat.mod_eq_of_lt hx)
 rw [e2] at e1
 have e3 : ((18446744073709551615 : Nat) : Int) = 18446744073709551615 := rfl
 rw [e3] at e1
 rw [e1, u64_xor_nat R _ hR hx, ← Nat.xor_assoc, Nat.xor_self, Nat.zero_xor]
theorem xmask0 (r a : Int) (hr : Sm.Wd r) (ha : Sm.Wd a) : bits .xor .u64 r (bits .and .u64 0 (bits .xor .u64 r a)) = r := by
 obtain ⟨R, rfl⟩ := Int.eq_ofNat_of_zero_le hr.1
 obtain ⟨A, rfl⟩ := Int.eq_ofNat_of_zero_le ha.1
 have hR : R < 18446744073709551616 := by have := hr.2; omega
 have hA : A < 18446744073709551616 := by have := ha.2; omega
 have hx : R ^^^ A < 18446744073709551616 := Nat.xor_lt_two_pow (n := 64) hR hA
 rw [u64_xor_nat R A hR hA]
 have e1 := u64_and_nat 0 (R ^^^ A) (by omega) hx
 rw [Nat.zero_and] at e1
 have e3 : ((0 : Nat) : Int) = 0 := rfl
 rw [e3] at e1
 have e4 := u64_xor_nat R 0 hR (by omega)
 rw [Nat.xor_zero, e3] at e4
 rw [e1, e4]
theorem wm1 : IntKind.u64.wrap (-1) = 18446744073709551615 := by rw [IntKind.wrap_u64]; rfl
set_option maxHeartbeats 1000000 in
theorem lessOnce_any (a0 a1 a2 a3 : Int) (w : World) (hT : Tb w) (h0 : Sm.Wd a0) (h1 : Sm.Wd a1) (h2 : Sm.Wd a2) (h3 : Sm.Wd a3) (hn : Sm.V a0 a1 a2 a3 < 2 * Sm.L) :
  Calls Tryz.prog 121 #[.int .u64 a0, .int .u64 a1, .int .u64 a2, .int .u64 a3] w fun e w' => e = .returned (lt (Sm.V a0 a1 a2 a3 % Sm.L)) ∧ w' = w := by
 obtain ⟨t0, t1, t2, t3, -⟩ := hT
 have hVb := Sm.V_bd a0 a1 a2 a3 h0 h1 h2 h3
 have hVi := Sm.V_inj h0 h1 h2 h3 rfl
 obtain ⟨⟨m0, m1, m2, m3⟩, mu⟩ := Sm.sub_math a0 a1 a2 a3 6346243789798364141 1503914060200516822 0 1152921504606846976 _ _ _ rfl rfl rfl
 have hL : Sm.V 6346243789798364141 1503914060200516822 0 1152921504606846976 = Sm.L := rfl
 rw [hL] at m0 m1 m2 m3 mu
 have w0 : Sm.Wd 6346243789798364141 := by unfold Sm.Wd; omega
 have w1 : Sm.Wd 1503914060200516822 := by unfold Sm.Wd; omega
 have w2 : Sm.Wd 0 := by unfold Sm.Wd; omega
 have w3 : Sm.Wd 1152921504606846976 := by unfold Sm.Wd; omega
 have B0 := Sm.borrow a0 6346243789798364141 0 h0 w0 (by omega) (by omega)
 have A0 := sub64_run a0 6346243789798364141 0 h0 w0 (by omega) (by omega)
 have B1 := Sm.borrow a1 1503914060200516822 _ h1 w1 B0.1 B0.2
 have A1 := sub64_run a1 1503914060200516822 _ h1 w1 B0.1 B0.2
 have B2 := Sm.borrow a2 0 _ h2 w2 B1.1 B1.2
 have A2 := sub64_run a2 0 _ h2 w2 B1.1 B1.2
 have A3 := sub64_run a3 1152921504606846976 _ h3 w3 B2.1 B2.2
 rw [m0] at A0
 rw [m1] at A1
 rw [m2] at A2
 rw [m3, mu] at A3
 clear m0 m1 m2 m3 mu hL w0 w1 w2 w3 B0 B1 B2
 have l0 := Sm.lim_wd 0 (Sm.V a0 a1 a2 a3 - Sm.L)
 have l1 := Sm.lim_wd 1 (Sm.V a0 a1 a2 a3 - Sm.L)
 have l2 := Sm.lim_wd 2 (Sm.V a0 a1 a2 a3 - Sm.L)
 have l3 := Sm.lim_wd 3 (Sm.V a0 a1 a2 a3 - Sm.L)
 by_cases hc : Sm.V a0 a1 a2 a3 < Sm.L
 ·have eu : -((Sm.V a0 a1 a2 a3 - Sm.L) / 115792089237316195423570985008687907853269984665640564039457584007913129639936) = 1 := by unfold Sm.L at *; omega
  rw [eu] at A3
  have em : Sm.V a0 a1 a2 a3 % Sm.L = Sm.V a0 a1 a2 a3 := Int.emod_eq_of_lt hVb.1 hc
  rw [em]
  unfold lt
  rw [← hVi.1, ← hVi.2.1, ← hVi.2.2.1, ← hVi.2.2.2]
  have x0 := xmask1 _ _ l0 h0
  have x1 := xmask1 _ _ l1 h1
  have x2 := xmask1 _ _ l2 h2
  have x3 := xmask1 _ _ l3 h3
  clear eu em hVb hVi hn hc l0 l1 l2 l3 h0 h1 h2 h3
  generalize Sm.V a0 a1 a2 a3 - Sm.L = n at *
  generalize -((a2 - 0 - -((a1 - 1503914060200516822 - -((a0 - 6346243789798364141 - 0) / 18446744073709551616)) / 18446744073709551616)) / 18446744073709551616) = c3 at *
  generalize -((a1 - 1503914060200516822 - -((a0 - 6346243789798364141 - 0) / 18446744073709551616)) / 18446744073709551616) = c2 at *
  generalize -((a0 - 6346243789798364141 - 0) / 18446744073709551616) = c1 at *
  generalize Sm.lim 0 n = r0 at *
  generalize Sm.lim 1 n = r1 at *
  generalize Sm.lim 2 n = r2 at *
  generalize Sm.lim 3 n = r3 at *
  go_enter Tryz.func121, Tryz.ntmps121
  go_wp2_with fail
  exact bodyPost_ret (v := .tuple #[.int .u64 a0, .int .u64 a1, .int .u64 a2, .int .u64 a3]) (by simp [results, Tryz.results121, go_sem, wm1, x0, x1, x2, x3]) rfl ⟨rfl, rfl⟩
 ·have eu : -((Sm.V a0 a1 a2 a3 - Sm.L) / 115792089237316195423570985008687907853269984665640564039457584007913129639936) = 0 := by unfold Sm.L at *; omega
  rw [eu] at A3
  have em : Sm.V a0 a1 a2 a3 % Sm.L = Sm.V a0 a1 a2 a3 - Sm.L := by unfold Sm.L at *; omega
  rw [em]
  unfold lt
  have x0 := xmask0 _ _ l0 h0
  have x1 := xmask0 _ _ l1 h1
  have x2 := xmask0 _ _ l2 h2
  have x3 := xmask0 _ _ l3 h3
  clear eu em hVb hVi hn hc l0 l1 l2 l3 h0 h1 h2 h3
  generalize Sm.V a0 a1 a2 a3 - Sm.L = n at *
  generalize -((a2 - 0 - -((a1 - 1503914060200516822 - -((a0 - 6346243789798364141 - 0) / 18446744073709551616)) / 18446744073709551616)) / 18446744073709551616) = c3 at *
  generalize -((a1 - 1503914060200516822 - -((a0 - 6346243789798364141 - 0) / 18446744073709551616)) / 18446744073709551616) = c2 at *
  generalize -((a0 - 6346243789798364141 - 0) / 18446744073709551616) = c1 at *
  generalize Sm.lim 0 n = r0 at *
  generalize Sm.lim 1 n = r1 at *
  generalize Sm.lim 2 n = r2 at *
  generalize Sm.lim 3 n = r3 at *
  go_enter Tryz.func121, Tryz.ntmps121
  go_wp2_with fail
  exact bodyPost_ret (v := .tuple #[.int .u64 r0, .int .u64 r1, .int .u64 r2, .int .u64 r3]) (by simp [results, Tryz.results121, go_sem]) rfl ⟨rfl, rfl⟩
set_option maxHeartbeats 1000000 in
theorem least_raw (a0 a1 a2 a3 : Int) (w : World) (hT : Tb w) (h0 : Sm.Wd a0) (h1 : Sm.Wd a1) (h2 : Sm.Wd a2) (h3 : Sm.Wd a3) :
  Calls Tryz.prog 122 #[.int .u64 a0, .int .u64 a1, .int .u64 a2, .int .u64 a3] w fun e w' => e = .returned (lt (Sm.V a0 a1 a2 a3 % Sm.L)) ∧ w' = w := by
 obtain ⟨q0, q1, hm0, hm1⟩ := Sm.least_math a0 a1 a2 a3 h0 h1 h2 h3 _ rfl
 have hT' := hT
 obtain ⟨t0, t1, -⟩ := hT'
 have b3 := h3
 unfold Sm.Wd at b3
 have K1 : 0 ≤ a3 / 1152921504606846976 ∧ a3 / 1152921504606846976 ≤ 15 := by omega
 have hqW : Sm.Wd (a3 / 1152921504606846976 - (a3 / 1152921504606846976 + 15) / 16) := by unfold Sm.Wd; omega
 have w0 : Sm.Wd 6346243789798364141 := by unfold Sm.Wd; omega
 have w1 : Sm.Wd 1503914060200516822 := by unfold Sm.Wd; omega
 have HT := Hn hT
 unfold lt
 clear hT
 go_enter Tryz.func122, Tryz.ntmps122
 go_wp2_with fail
 refine (mul64_any _ _ hqW w0 _).mono ?_
 rintro e w' ⟨rfl, rfl⟩
 clear K1 b3
 generalize a3 / 1152921504606846976 - (a3 / 1152921504606846976 + 15) / 16 = q at *
 have M1 := Hn (mul64_any q 1503914060200516822 hqW w1)
 obtain ⟨tm, v0, v1, v2, v3⟩ := Sm.times_math q q0 q1 _ _ rfl rfl
 obtain ⟨⟨m0, m1, m2, m3⟩, -⟩ := Sm.sub_math a0 a1 a2 a3 (q * 6346243789798364141 % 18446744073709551616) ((q * 1503914060200516822 % 18446744073709551616 + q * 6346243789798364141 / 18446744073709551616 + 0) % 18446744073709551616) (q * 1503914060200516822 / 18446744073709551616 + (q * 1503914060200516822 % 18446744073709551616 + q * 6346243789798364141 / 18446744073709551616 + 0) / 18446744073709551616) (q * 1152921504606846976) _ _ _ rfl rfl rfl
 rw [← tm] at m0 m1 m2 m3
 have B0 := Sm.borrow a0 _ 0 h0 v0 (by omega) (by omega)
 have S0 := sub64_run a0 _ 0 h0 v0 (by omega) (by omega)
 have B1 := Sm.borrow a1 _ _ h1 v1 B0.1 B0.2
 have S1 := sub64_run a1 _ _ h1 v1 B0.1 B0.2
 have B2 := Sm.borrow a2 _ _ h2 v2 B1.1 B1.2
 have S2 := sub64_run a2 _ _ h2 v2 B1.1 B1.2
 have S3 := sub64_run a3 _ _ h3 v3 B2.1 B2.2
 have A0 := add64_run (q * 1503914060200516822 % 18446744073709551616) (q * 6346243789798364141 / 18446744073709551616) 0 (by omega) (by omega) (by omega) (by omega)
 rw [m0] at S0
 rw [m1] at S1
 rw [m2] at S2
 rw [m3] at S3
 have e2 : IntKind.u64.wrap (q * 1503914060200516822 / 18446744073709551616 + (q * 1503914060200516822 % 18446744073709551616 + q * 6346243789798364141 / 18446744073709551616 + 0) / 18446744073709551616) = q * 1503914060200516822 / 18446744073709551616 + (q * 1503914060200516822 % 18446744073709551616 + q * 6346243789798364141 / 18446744073709551616 + 0) / 18446744073709551616 := by rw [IntKind.wrap_u64]; omega
 have e3 : IntKind.u64.wrap (q * 1152921504606846976) = q * 1152921504606846976 := by rw [IntKind.wrap_u64]; omega
 have hk : 0 ≤ Sm.V a0 a1 a2 a3 - q * Sm.L ∧ Sm.V a0 a1 a2 a3 - q * Sm.L < 115792089237316195423570985008687907853269984665640564039457584007913129639936 := by unfold Sm.L at *; omega
 have hV := Sm.V_lim _ hk.1 hk.2
 have LO := Hn (lessOnce_any (Sm.lim 0 (Sm.V a0 a1 a2 a3 - q * Sm.L)) (Sm.lim 1 (Sm.V a0 a1 a2 a3 - q * Sm.L)) (Sm.lim 2 (Sm.V a0 a1 a2 a3 - q * Sm.L)) (Sm.lim 3 (Sm.V a0 a1 a2 a3 - q * Sm.L)) w' HT.out (Sm.lim_wd _ _) (Sm.lim_wd _ _) (Sm.lim_wd _ _) (Sm.lim_wd _ _) (by rw [hV]; exact hm1))
 rw [hV] at LO
 have hmod : (Sm.V a0 a1 a2 a3 - q * Sm.L) % Sm.L = Sm.V a0 a1 a2 a3 % Sm.L := by rw [Int.sub_eq_add_neg, ← Int.neg_mul, Int.add_mul_emod_self_right]
 rw [hmod] at LO
 unfold lt at LO
 generalize hN : Sm.V a0 a1 a2 a3 % Sm.L = N at LO
 generalize Sm.V a0 a1 a2 a3 - q * Sm.L = n at *
 unfold Sm.Wd at v2 v3
 clear hmod hV hk hm0 hm1 tm m0 m1 m2 m3 B0 B1 B2 h0 h1 h2 h3 v0 v1 w0 w1 hqW
 generalize q * 1503914060200516822 / 18446744073709551616 = y1h at *
 generalize q * 1503914060200516822 % 18446744073709551616 = y1l at *
 generalize q * 6346243789798364141 / 18446744073709551616 = y0h at *
 generalize q * 6346243789798364141 % 18446744073709551616 = y0l at *
 generalize (y1l + y0h + 0) % 18446744073709551616 = x1 at *
 generalize (y1l + y0h + 0) / 18446744073709551616 = cc at *
 generalize -((a0 - y0l - 0) / 18446744073709551616) = c1 at *
 generalize -((a1 - x1 - c1) / 18446744073709551616) = c2 at *
 generalize -((a2 - (y1h + cc) - c2) / 18446744073709551616) = c3 at *
 generalize -((a3 - q * 1152921504606846976 - c3) / 18446744073709551616) = c4 at *
 go_wp2_with fail
 refine (M1.out _).mono ?_
 rintro e w' ⟨rfl, rfl⟩
 clear M1
 go_wp2_with fail
 refine LO.out.mono ?_
 rintro e w' ⟨rfl, rfl⟩
 clear LO
 go_wp2_with fail
 exact bodyPost_ret (v := .tuple #[.int .u64 (Sm.lim 0 N), .int .u64 (Sm.lim 1 N), .int .u64 (Sm.lim 2 N), .int .u64 (Sm.lim 3 N)]) (by simp [results, Tryz.results122, go_sem]) rfl ⟨by rw [hN], rfl⟩
end Go.Proofs.YtghcfcglakbkeaaGreatDoor
namespace Go.Proofs.YtghcfcglakbkeaaGreatDoor
set_option maxHeartbeats 1000000
open Go.RowKit
structure E4 where
 x0 : Int
 x1 : Int
 x2 : Int
 x3 : Int
def E4.ok (a : E4) : Prop := Sm.Wd a.x0 ∧ Sm.Wd a.x1 ∧ Sm.Wd a.x2 ∧ Sm.Wd a.x3
def E4.v (a : E4) : Value := .agg #[.int .u64 a.x0, .int .u64 a.x1, .int .u64 a.x2, .int .u64 a.x3]
def E4.n (a : E4) : Int := Sm.V a.x0 a.x1 a.x2 a.x3
def lst (n : Int) : E4 := ⟨Sm.lim 0 (n % Sm.L), Sm.lim 1 (n % Sm.L), Sm.lim 2 (n % Sm.L), Sm.lim 3 (n % Sm.L)⟩
theorem lst_ok (n : Int) : (lst n).ok := ⟨Sm.lim_wd 0 _, Sm.lim_wd 1 _, Sm.lim_wd 2 _, Sm.lim_wd 3 _⟩
theorem mod_bd (n : Int) : 0 ≤ n % Sm.L ∧ n % Sm.L < Sm.L := ⟨Int.emod_nonneg _ (by decide), Int.emod_lt_of_pos _ (by decide)⟩
theorem mod_bd4 (n : Int) : n % Sm.L < 115792089237316195423570985008687907853269984665640564039457584007913129639936 := Int.lt_trans (mod_bd n).2 (by decide)
theorem lst_n (n : Int) : (lst n).n = n % Sm.L := Sm.V_lim _ (mod_bd n).1 (mod_bd4 n)
def E4.is (r : E4) (n : Int) : Prop := r = lst n
theorem E4.is.ok {r : E4} {n : Int} (h : r.is n) : r.ok := by rw [h]; exact lst_ok n
theorem E4.is.n {r : E4} {n : Int} (h : r.is n) : r.n = n % Sm.L := by rw [h]; exact lst_n n
theorem E4.is.lt {r : E4} {n : Int} (h : r.is n) : r.n < Sm.L := by rw [h.n]; exact (mod_bd n).2
theorem ret4 {F : Nat} {w : World} {args : Array Value} {n m : Int} (h : n % Sm.L = m % Sm.L) (c : Calls Tryz.prog F args w fun e w' => e = .returned (lt (n % Sm.L)) ∧ w' = w) :
  Calls Tryz.prog F args w fun e w' => ∃ r : E4, e = .returned (.tuple #[.int .u64 r.x0, .int .u64 r.x1, .int .u64 r.x2, .int .u64 r.x3]) ∧ r.is m ∧ w' = w :=
 c.mono fun e w' q => ⟨lst n, q.1, by unfold E4.is lst; rw [h], q.2⟩
theorem bl_trans {w w1 w2 : World} (h1 : Below w.heap.size w w1) (h2 : Below w1.heap.size w1 w2) : Below w.heap.size w w2 := h1.trans (h2.mono h1.size)
theorem bl_alloc (w : World) (o : Obj) : Below w.heap.size w (w.alloc o) := (Below.refl _ _).alloc (Nat.le_refl _) _
theorem bl_alloc2 (w : World) (o p : Obj) : Below w.heap.size w ((w.alloc o).alloc p) := bl_trans (bl_alloc w o) (bl_alloc _ p)
theorem bl_alloc3 (w : World) (o p q : Obj) : Below w.heap.size w (((w.alloc o).alloc p).alloc q) := bl_trans (bl_alloc2 w o p) (bl_alloc _ q)
theorem bl_alloc4 (w : World) (o p q r : Obj) : Below w.heap.size w ((((w.alloc o).alloc p).alloc q).alloc r) := bl_trans (bl_alloc3 w o p q) (bl_alloc _ r)
theorem bl_set4 {w w3 : World} {b : Nat} (v0 v1 v2 v3 : Value) (h : Below w.heap.size w w3) (hb : w.heap.size ≤ b) :
  Below w.heap.size w ((((w3.setCell ⟨b, 0, none⟩ v0).setCell ⟨b, 1, none⟩ v1).setCell ⟨b, 2, none⟩ v2).setCell ⟨b, 3, none⟩ v3) :=
 (((h.setCell hb _).setCell hb _).setCell hb _).setCell hb _
theorem bcell {W w1 : World} (hb : Below W.heap.size W w1) : (∀ b o, b < W.heap.size → w1.cell? ⟨b, o, none⟩ = W.cell? ⟨b, o, none⟩) ∧ (∀ b o, b < W.heap.size → w1.frozen? ⟨b, o, none⟩ = W.frozen? ⟨b, o, none⟩) :=
 ⟨fun b o h => hb.cell (p := ⟨b, o, none⟩) h, fun b o h => hb.frozen (p := ⟨b, o, none⟩) h⟩
theorem Least_any (a : E4) (w : World) (hT : Tb w) (h : a.ok) :
  Calls Tryz.prog 115 #[a.v] w fun e w' => ∃ r : E4, e = .returned r.v ∧ r.is a.n ∧ Below w.heap.size w w' := by
 have c1 := fun w T => ret4 rfl (least_raw a.x0 a.x1 a.x2 a.x3 w T h.1 h.2.1 h.2.2.1 h.2.2.2)
 change ∀ w, Tb w → Calls _ _ _ w (fun e w' => ∃ r : E4, e = .returned (.tuple #[.int .u64 r.x0, .int .u64 r.x1, .int .u64 r.x2, .int .u64 r.x3]) ∧ r.is a.n ∧ w' = w) at c1
 simp only [E4.v] at c1 ⊢
 have C1 := Hn c1
 have HT := Hn hT
 clear c1 h hT
 generalize a.n = N at *
 go_enter Tryz.func115, Tryz.ntmps115
 go_wp2_with fail
 refine (C1.out _ (HT.out.keep (bl_alloc2 _ _ _))).mono ?_
 rintro e w' ⟨r, rfl, hr, rfl⟩
 clear C1
 go_wp2_with fail
 refine bodyPost_ret (v := .agg #[.int .u64 r.x0, .int .u64 r.x1, .int .u64 r.x2, .int .u64 r.x3]) (by simp [results, Tryz.results115, go_sem]) rfl ⟨r, rfl, hr, ?_⟩
 exact bl_alloc2 w _ _
theorem mod_add2 (a b : Int) : (a % Sm.L + b % Sm.L) % Sm.L = (a + b) % Sm.L := (Int.add_emod a b Sm.L).symm
theorem mod_sub2 (a b : Int) : (a % Sm.L + Sm.L - b % Sm.L) % Sm.L = (a - b) % Sm.L := by
 rw [show a % Sm.L + Sm.L - b % Sm.L = a % Sm.L - b % Sm.L + Sm.L by omega, Int.add_emod_right, ← Int.sub_emod]
theorem Add_any (a b : E4) (w : World) (hT : Tb w) (ha : a.ok) (hb : b.ok) :
  Calls Tryz.prog 86 #[a.v, b.v] w fun e w' => ∃ r : E4, e = .returned r.v ∧ r.is (a.n + b.n) ∧ Below w.heap.size w w' := by
 have c1 := fun w T => least_raw a.x0 a.x1 a.x2 a.x3 w T ha.1 ha.2.1 ha.2.2.1 ha.2.2.2
 have c2 := fun w T => least_raw b.x0 b.x1 b.x2 b.x3 w T hb.1 hb.2.1 hb.2.2.1 hb.2.2.2
 have hx := mod_bd a.n
 have hy := mod_bd b.n
 have c3 := fun w => sum_any _ _ _ _ _ _ _ _ w (Sm.lim_wd 0 (a.n % Sm.L)) (Sm.lim_wd 1 (a.n % Sm.L)) (Sm.lim_wd 2 (a.n % Sm.L)) (Sm.lim_wd 3 (a.n % Sm.L)) (Sm.lim_wd 0 (b.n % Sm.L)) (Sm.lim_wd 1 (b.n % Sm.L)) (Sm.lim_wd 2 (b.n % Sm.L)) (Sm.lim_wd 3 (b.n % Sm.L))
 have hsum : 0 ≤ a.n % Sm.L + b.n % Sm.L ∧ a.n % Sm.L + b.n % Sm.L < 2 * Sm.L := by omega
 have hV := Sm.V_lim (a.n % Sm.L + b.n % Sm.L) hsum.1 (Int.lt_trans hsum.2 (by decide))
 rw [Sm.V_lim _ hx.1 (mod_bd4 _), Sm.V_lim _ hy.1 (mod_bd4 _)] at c3
 have c4 := fun w T => ret4 (m := a.n + b.n) (by rw [hV, mod_add2]) (lessOnce_any _ _ _ _ w T (Sm.lim_wd 0 (a.n % Sm.L + b.n % Sm.L)) (Sm.lim_wd 1 (a.n % Sm.L + b.n % Sm.L)) (Sm.lim_wd 2 (a.n % Sm.L + b.n % Sm.L)) (Sm.lim_wd 3 (a.n % Sm.L + b.n % Sm.L)) (by rw [hV]; exact hsum.2))
 clear hV hsum hx hy ha hb
 change ∀ w, Tb w → Calls _ _ _ w (fun e w' => e = .returned (lt (a.n % Sm.L)) ∧ w' = w) at c1
 change ∀ w, Tb w → Calls _ _ _ w (fun e w' => e = .returned (lt (b.n % Sm.L)) ∧ w' = w) at c2
 generalize a.n + b.n = N at *
 generalize a.n % Sm.L + b.n % Sm.L = z at *
 generalize a.n % Sm.L = x at *
 generalize b.n % Sm.L = y at *
 unfold lt at c1 c2 c3
 generalize Sm.lim 0 x = x0 at *
 generalize Sm.lim 1 x = x1 at *
 generalize Sm.lim 2 x = x2 at *
 generalize Sm.lim 3 x = x3 at *
 generalize Sm.lim 0 y = y0 at *
 generalize Sm.lim 1 y = y1 at *
 generalize Sm.lim 2 y = y2 at *
 generalize Sm.lim 3 y = y3 at *
 generalize Sm.lim 0 z = z0 at *
 generalize Sm.lim 1 z = z1 at *
 generalize Sm.lim 2 z = z2 at *
 generalize Sm.lim 3 z = z3 at *
 simp only [E4.v]
 have C1 := Hn c1
 have C2 := Hn c2
 have C3 := Hn c3
 have C4 := Hn c4
 have HT := Hn (hT.keep (bl_alloc3 _ (.cells #[.int .u64 a.x0, .int .u64 a.x1, .int .u64 a.x2, .int .u64 a.x3] 41) (.cells #[.int .u64 b.x0, .int .u64 b.x1, .int .u64 b.x2, .int .u64 b.x3] 41) (.cells #[.int .u64 0, .int .u64 0, .int .u64 0, .int .u64 0] 41)))
 clear c1 c2 c3 c4 hT
 go_enter Tryz.func86, Tryz.ntmps86
 go_wp2_with fail
 refine (C1.out _ HT.out).mono ?_
 rintro e w' ⟨rfl, rfl⟩
 clear C1
 go_wp2_with fail
 refine (C2.out _ HT.out).mono ?_
 rintro e w' ⟨rfl, rfl⟩
 clear C2
 go_wp2_with fail
 refine (C3.out _).mono ?_
 rintro e w' ⟨rfl, rfl⟩
 clear C3
 go_wp2_with fail
 refine (C4.out _ HT.out).mono ?_
 rintro e w' ⟨r, rfl, hr, rfl⟩
 clear C4
 go_wp2_with fail
 refine bodyPost_ret (v := .agg #[.int .u64 r.x0, .int .u64 r.x1, .int .u64 r.x2, .int .u64 r.x3]) (by simp [results, Tryz.results86, go_sem]) rfl ⟨r, rfl, hr, ?_⟩
 exact bl_alloc3 w _ _ _
theorem Sub_any (a b : E4) (w : World) (hT : Tb w) (ha : a.ok) (hb : b.ok) :
  Calls Tryz.prog 124 #[a.v, b.v] w fun e w' => ∃ r : E4, e = .returned r.v ∧ r.is (a.n - b.n) ∧ Below w.heap.size w w' := by
 have c1 := fun w T => least_raw a.x0 a.x1 a.x2 a.x3 w T ha.1 ha.2.1 ha.2.2.1 ha.2.2.2
 have c2 := fun w T => least_raw b.x0 b.x1 b.x2 b.x3 w T hb.1 hb.2.1 hb.2.2.1 hb.2.2.2
 have hx := mod_bd a.n
 have hy := mod_bd b.n
 have w0 : Sm.Wd 6346243789798364141 := by unfold Sm.Wd; omega
 have w1 : Sm.Wd 1503914060200516822 := by unfold Sm.Wd; omega
 have w2 : Sm.Wd 0 := by unfold Sm.Wd; omega
 have w3 : Sm.Wd 1152921504606846976 := by unfold Sm.Wd; omega
 have c3 := fun w => sum_any _ _ _ _ _ _ _ _ w (Sm.lim_wd 0 (a.n % Sm.L)) (Sm.lim_wd 1 (a.n % Sm.L)) (Sm.lim_wd 2 (a.n % Sm.L)) (Sm.lim_wd 3 (a.n % Sm.L)) w0 w1 w2 w3
 rw [Sm.V_lim _ hx.1 (mod_bd4 _), show Sm.V 6346243789798364141 1503914060200516822 0 1152921504606846976 = Sm.L from rfl] at c3
 have hs1 : 0 ≤ a.n % Sm.L + Sm.L ∧ a.n % Sm.L + Sm.L < 2 * Sm.L := by unfold Sm.L at *; omega
 have hV1 := Sm.V_lim (a.n % Sm.L + Sm.L) hs1.1 (Int.lt_trans hs1.2 (by decide))
 have hVy := Sm.V_lim _ hy.1 (mod_bd4 b.n)
 have hs2 : 0 ≤ a.n % Sm.L + Sm.L - b.n % Sm.L ∧ a.n % Sm.L + Sm.L - b.n % Sm.L < 2 * Sm.L := by unfold Sm.L at *; omega
 have hV2 := Sm.V_lim (a.n % Sm.L + Sm.L - b.n % Sm.L) hs2.1 (Int.lt_trans hs2.2 (by decide))
 have c4 := fun w T => ret4 (m := a.n - b.n) (by rw [hV2, mod_sub2]) (lessOnce_any _ _ _ _ w T (Sm.lim_wd 0 (a.n % Sm.L + Sm.L - b.n % Sm.L)) (Sm.lim_wd 1 (a.n % Sm.L + Sm.L - b.n % Sm.L)) (Sm.lim_wd 2 (a.n % Sm.L + Sm.L - b.n % Sm.L)) (Sm.lim_wd 3 (a.n % Sm.L + Sm.L - b.n % Sm.L)) (by rw [hV2]; exact hs2.2))
 obtain ⟨⟨m0, m1, m2, m3⟩, -⟩ := Sm.sub_math (Sm.lim 0 (a.n % Sm.L + Sm.L)) (Sm.lim 1 (a.n % Sm.L + Sm.L)) (Sm.lim 2 (a.n % Sm.L + Sm.L)) (Sm.lim 3 (a.n % Sm.L + Sm.L)) (Sm.lim 0 (b.n % Sm.L)) (Sm.lim 1 (b.n % Sm.L)) (Sm.lim 2 (b.n % Sm.L)) (Sm.lim 3 (b.n % Sm.L)) _ _ _ rfl rfl rfl
 rw [hV1, hVy] at m0 m1 m2 m3
 have B0 := Sm.borrow (Sm.lim 0 (a.n % Sm.L + Sm.L)) (Sm.lim 0 (b.n % Sm.L)) 0 (Sm.lim_wd _ _) (Sm.lim_wd _ _) (by omega) (by omega)
 have S0 := sub64_run (Sm.lim 0 (a.n % Sm.L + Sm.L)) (Sm.lim 0 (b.n % Sm.L)) 0 (Sm.lim_wd _ _) (Sm.lim_wd _ _) (by omega) (by omega)
 have B1 := Sm.borrow (Sm.lim 1 (a.n % Sm.L + Sm.L)) (Sm.lim 1 (b.n % Sm.L)) _ (Sm.lim_wd _ _) (Sm.lim_wd _ _) B0.1 B0.2
 have S1 := sub64_run (Sm.lim 1 (a.n % Sm.L + Sm.L)) (Sm.lim 1 (b.n % Sm.L)) _ (Sm.lim_wd _ _) (Sm.lim_wd _ _) B0.1 B0.2
 have B2 := Sm.borrow (Sm.lim 2 (a.n % Sm.L + Sm.L)) (Sm.lim 2 (b.n % Sm.L)) _ (Sm.lim_wd _ _) (Sm.lim_wd _ _) B1.1 B1.2
 have S2 := sub64_run (Sm.lim 2 (a.n % Sm.L + Sm.L)) (Sm.lim 2 (b.n % Sm.L)) _ (Sm.lim_wd _ _) (Sm.lim_wd _ _) B1.1 B1.2
 have S3 := sub64_run (Sm.lim 3 (a.n % Sm.L + Sm.L)) (Sm.lim 3 (b.n % Sm.L)) _ (Sm.lim_wd _ _) (Sm.lim_wd _ _) B2.1 B2.2
 rw [m0] at S0
 rw [m1] at S1
 rw [m2] at S2
 rw [m3] at S3
 clear hV1 hVy hV2 hs1 hs2 hx hy ha hb w0 w1 w2 w3 m0 m1 m2 m3 B0 B1 B2
 change ∀ w, Tb w → Calls _ _ _ w (fun e w' => e = .returned (lt (a.n % Sm.L)) ∧ w' = w) at c1
 change ∀ w, Tb w → Calls _ _ _ w (fun e w' => e = .returned (lt (b.n % Sm.L)) ∧ w' = w) at c2
 generalize a.n - b.n = N at *
 generalize a.n % Sm.L + Sm.L - b.n % Sm.L = z at *
 generalize a.n % Sm.L + Sm.L = u at *
 generalize a.n % Sm.L = x at *
 generalize b.n % Sm.L = y at *
 unfold lt at c1 c2 c3
 generalize Sm.lim 0 x = x0 at *
 generalize Sm.lim 1 x = x1 at *
 generalize Sm.lim 2 x = x2 at *
 generalize Sm.lim 3 x = x3 at *
 generalize Sm.lim 0 y = y0 at *
 generalize Sm.lim 1 y = y1 at *
 generalize Sm.lim 2 y = y2 at *
 generalize Sm.lim 3 y = y3 at *
 generalize Sm.lim 0 z = z0 at *
 generalize Sm.lim 1 z = z1 at *
 generalize Sm.lim 2 z = z2 at *
 generalize Sm.lim 3 z = z3 at *
 generalize Sm.lim 0 u = u0 at *
 generalize Sm.lim 1 u = u1 at *
 generalize Sm.lim 2 u = u2 at *
 generalize Sm.lim 3 u = u3 at *
 generalize -((u0 - y0 - 0) / 18446744073709551616) = d1 at *
 generalize -((u1 - y1 - d1) / 18446744073709551616) = d2 at *
 generalize -((u2 - y2 - d2) / 18446744073709551616) = d3 at *
 generalize -((u3 - y3 - d3) / 18446744073709551616) = d4 at *
 simp only [E4.v]
 have C1 := Hn c1
 have C2 := Hn c2
 have C3 := Hn c3
 have C4 := Hn c4
 have HT := Hn hT
 obtain ⟨t0, t1, t2, t3, -⟩ := hT
 have hz0 : 1 < w.heap.size := World.block_lt_of_cell? w ⟨1, 0, none⟩ t0
 have hzA : ¬ w.heap.size = 1 := by omega
 have hzB : ¬ 1 = w.heap.size := by omega
 have hzC : 0 < w.heap.size := by omega
 have hzD : 1 < w.heap.size + 1 := by omega
 have hzE : 1 < w.heap.size + 1 + 1 := by omega
 clear c1 c2 c3 c4
 go_enter Tryz.func124, Tryz.ntmps124
 go_wp2_with fail
 refine (C1.out _ (HT.out.keep (bl_alloc4 _ _ _ _ _))).mono ?_
 rintro e w' ⟨rfl, rfl⟩
 clear C1
 go_wp2_with fail
 refine (C2.out _ (HT.out.keep (bl_alloc4 _ _ _ _ _))).mono ?_
 rintro e w' ⟨rfl, rfl⟩
 clear C2
 go_wp2_with fail
 refine (C3.out _).mono ?_
 rintro e w' ⟨rfl, rfl⟩
 clear C3
 go_wp2_with fail
 refine (C4.out _ (HT.out.keep (bl_alloc4 _ _ _ _ _))).mono ?_
 rintro e w' ⟨r, rfl, hr, rfl⟩
 clear C4
 go_wp2_with fail
 refine bodyPost_ret (v := .agg #[.int .u64 r.x0, .int .u64 r.x1, .int .u64 r.x2, .int .u64 r.x3]) (by simp [results, Tryz.results124, go_sem]) rfl ⟨r, rfl, hr, ?_⟩
 exact bl_alloc4 w _ _ _ _
end Go.Proofs.YtghcfcglakbkeaaGreatDoor
