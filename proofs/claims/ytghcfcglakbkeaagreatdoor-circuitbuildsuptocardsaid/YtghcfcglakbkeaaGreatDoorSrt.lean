import Derived.Test.YtghcfcglakbkeaaGreatDoorSrpz
namespace Go.Proofs.YtghcfcglakbkeaaGreatDoor
open Go.RowKit
theorem and32 (u : Int) (h0 : 0 ≤ u) (h1 : u ≤ 18446744073709551615) : bits .and .u64 u 4294967295 = u % 4294967296 := by
 rw [u64_and u 4294967295 h0 (by omega) (by omega) (by omega)]
 have : u.toNat &&& (4294967295 : Int).toNat = u.toNat % 4294967296 := Nat.and_two_pow_sub_one_eq_mod u.toNat 32
 rw [this]; omega
theorem and60 (u : Int) (h0 : 0 ≤ u) (h1 : u ≤ 18446744073709551615) : bits .and .u64 u 1152921504606846975 = u % 1152921504606846976 := by
 rw [u64_and u 1152921504606846975 h0 (by omega) (by omega) (by omega)]
 have : u.toNat &&& (1152921504606846975 : Int).toNat = u.toNat % 1152921504606846976 := Nat.and_two_pow_sub_one_eq_mod u.toNat 60
 rw [this]; omega
theorem St.less {w0 : World} {L M : List (Nat × E4)} {R Q : List Nat} {w1 : World} (h : St w0 L R w1) (hs : ∀ p ∈ M, p ∈ L) (hr : ∀ b ∈ Q, b ∈ R) : St w0 M Q w1 := ⟨fun p hp => h.live p (hs p hp), fun b hb => h.wrt b (hr b hb), h.bel⟩
def ckS (c1 c2 c3 c4 : Int) : Nat → Int
 | 0 => 0
 | 1 => c1
 | 2 => c2
 | 3 => c3
 | _ => c4
def pk (p0 p1 p2 p3 : Int) : Nat → E4
 | 0 => ⟨1559614445, 1477600026, 2734136534, 350157278⟩
 | 1 => ⟨p0, 1477600026, 2734136534, 350157278⟩
 | 2 => ⟨p0, p1, 2734136534, 350157278⟩
 | 3 => ⟨p0, p1, p2, 350157278⟩
 | _ => ⟨p0, p1, p2, p3⟩
def lk (l0 l1 l2 l3 : Int) : Nat → E4
 | 0 => ⟨0, 0, 0, 0⟩
 | 1 => ⟨l0, 0, 0, 0⟩
 | 2 => ⟨l0, l1, 0, 0⟩
 | 3 => ⟨l0, l1, l2, 0⟩
 | _ => ⟨l0, l1, l2, l3⟩
set_option maxRecDepth 100000 in
set_option maxHeartbeats 8000000 in
theorem rstep_any (r : E4) (x : Int) (w : World) (hr : r.ok) (hL : r.n < Sm.L) (h0 : 0 ≤ x) (h1 : x < 65536) :
  Calls Tryz.prog 89 #[r.v, .int .u64 x] w fun e w' => ∃ t : E4, e = .returned t.v ∧ t.is (65536 * r.n + x) ∧ Below w.heap.size w w' := by
 obtain ⟨q, hq⟩ : ∃ q, q = r.x3 / 17592186044416 := ⟨_, rfl⟩
 obtain ⟨d, hd⟩ : ∃ d, d = (65536 * r.n + x) % 7237005577332262213973186563042994240829374041602535252466099000494570602496 - q * 27742317777372353535851937790883648493 := ⟨_, rfl⟩
 obtain ⟨q0, q1, fA, fB, fC⟩ := step_fin r x q d hr hL h0 h1 hq hd
 obtain ⟨k0, k1, k2, k3⟩ := low_math r x hr h0 h1
 obtain ⟨n, hn⟩ : ∃ n, n = 65536 * r.n + x := ⟨_, rfl⟩
 rw [← hn] at k0 k1 k2 k3 hd fA fB
 obtain ⟨u0, e0⟩ : ∃ u, u = 1559614445 * q := ⟨_, rfl⟩
 obtain ⟨u1, e1⟩ : ∃ u, u = 1477600026 * q + u0 / 4294967296 := ⟨_, rfl⟩
 obtain ⟨u2, e2⟩ : ∃ u, u = 2734136534 * q + u1 / 4294967296 := ⟨_, rfl⟩
 obtain ⟨u3, e3⟩ : ∃ u, u = 350157278 * q + u2 / 4294967296 := ⟨_, rfl⟩
 obtain ⟨qn, qok⟩ := qc_math q u0 u1 u2 u3 q0 q1 e0 e1 e2 e3
 have b0 : 0 ≤ u0 ∧ u0 ≤ 18446744073709551615 := by omega
 have b1 : 0 ≤ u1 ∧ u1 ≤ 18446744073709551615 := by omega
 have b2 : 0 ≤ u2 ∧ u2 ≤ 18446744073709551615 := by omega
 have b3 : 0 ≤ u3 ∧ u3 ≤ 18446744073709551615 := by omega
 have W0 : IntKind.u64.wrap (1559614445 * q) = 1559614445 * q := by rw [IntKind.wrap_u64]; omega
 have W1 : IntKind.u64.wrap (1477600026 * q) = 1477600026 * q := by rw [IntKind.wrap_u64]; omega
 have W2 : IntKind.u64.wrap (2734136534 * q) = 2734136534 * q := by rw [IntKind.wrap_u64]; omega
 have W3 : IntKind.u64.wrap (350157278 * q) = 350157278 * q := by rw [IntKind.wrap_u64]; omega
 have V0 : IntKind.u64.wrap (1559614445 * q + 0) = u0 := by rw [IntKind.wrap_u64]; omega
 have V1 : IntKind.u64.wrap (1477600026 * q + u0 / 4294967296) = u1 := by rw [IntKind.wrap_u64]; omega
 have V2 : IntKind.u64.wrap (2734136534 * q + u1 / 4294967296) = u2 := by rw [IntKind.wrap_u64]; omega
 have V3 : IntKind.u64.wrap (350157278 * q + u2 / 4294967296) = u3 := by rw [IntKind.wrap_u64]; omega
 have A0 := and32 u0 b0.1 b0.2
 have A1 := and32 u1 b1.1 b1.2
 have A2 := and32 u2 b2.1 b2.2
 have A3 := and32 u3 b3.1 b3.2
 have g0 : bits .or .u64 (u0 % 4294967296) (IntKind.u64.wrap (u1 % 4294967296 * 4294967296)) = u0 % 4294967296 + u1 % 4294967296 * 4294967296 := by
  rw [show IntKind.u64.wrap (u1 % 4294967296 * 4294967296) = u1 % 4294967296 * 2 ^ 32 by rw [IntKind.wrap_u64]; simp only [Int.reducePow]; omega]
  rw [or_parts 32 _ _ (by omega) (by simp only [Int.reducePow]; omega) (by omega) (by simp only [Int.reducePow]; omega) (by omega)]
  rfl
 have g1 : bits .or .u64 (u2 % 4294967296) (IntKind.u64.wrap (u3 % 4294967296 * 4294967296)) = u2 % 4294967296 + u3 % 4294967296 * 4294967296 := by
  rw [show IntKind.u64.wrap (u3 % 4294967296 * 4294967296) = u3 % 4294967296 * 2 ^ 32 by rw [IntKind.wrap_u64]; simp only [Int.reducePow]; omega]
  rw [or_parts 32 _ _ (by omega) (by simp only [Int.reducePow]; omega) (by omega) (by simp only [Int.reducePow]; omega) (by omega)]
  rfl
 have ws1 : IntKind.u64.wrap (u1 % 4294967296 * 4294967296) = u1 % 4294967296 * 4294967296 := by rw [IntKind.wrap_u64]; omega
 have ws3 : IntKind.u64.wrap (u3 % 4294967296 * 4294967296) = u3 % 4294967296 * 4294967296 := by rw [IntKind.wrap_u64]; omega
 rw [ws1] at g0
 rw [ws3] at g1
 have eb : (lowE n).n - (qcE (u0 % 4294967296) (u1 % 4294967296) (u2 % 4294967296) (u3 % 4294967296) (u3 / 4294967296)).n = d := by rw [lowE_n, qn, hd]
 have mi := Hn (fun w => rminus_any (lowE n) (qcE (u0 % 4294967296) (u1 % 4294967296) (u2 % 4294967296) (u3 % 4294967296) (u3 / 4294967296)) w (lowE_ok n) qok)
 rw [eb] at mi
 obtain ⟨tE, htE⟩ : ∃ t : E4, t = lst n := ⟨_, rfl⟩
 obtain ⟨dE, hdE⟩ : ∃ t : E4, t = limE d := ⟨_, rfl⟩
 obtain ⟨cy, pl⟩ : ∃ cy : Int, Hid (d < 0 → ∀ w, Calls Tryz.prog 91 #[dE.v, lE.v] w fun e w' => e = .returned (.tuple #[tE.v, .int .u64 cy]) ∧ Below w.heap.size w w') := by
  refine ⟨((limE d).n + lE.n) / 115792089237316195423570985008687907853269984665640564039457584007913129639936, Hn (fun h w => ?_)⟩
  have k := rplus_any (limE d) lE w (limE_ok d) lE_ok
  obtain ⟨f1, f2, f3⟩ := fB h
  have hv : (limE d).n = d + 115792089237316195423570985008687907853269984665640564039457584007913129639936 := by
   have e1 := limE_shift (d + 115792089237316195423570985008687907853269984665640564039457584007913129639936) d 1 (by omega)
   rw [← e1]; exact limE_n _ (by omega) (by omega)
  have e2 : limE ((limE d).n + lE.n) = tE := by
   rw [hv, lE_n, htE, ← f3]; exact limE_shift _ _ 1 (by omega)
  rw [e2] at k
  rw [hdE]; exact k
 have be : Hid (∀ w, Calls Tryz.prog 92 #[tE.v, lE.v] w fun e w' => e = .returned (.bool true) ∧ Below w.heap.size w w') := Hn (fun w => by
  have k := rbelow_any tE lE w (by rw [htE]; exact lst_ok _) lE_ok
  rw [decide_eq_true (show tE.n < lE.n by rw [htE, lst_n, lE_n]; exact (mod_bd n).2)] at k
  exact k)
 have miA : Hid (0 ≤ d → ∀ w, Calls Tryz.prog 94 #[(lowE n).v, (qcE (u0 % 4294967296) (u1 % 4294967296) (u2 % 4294967296) (u3 % 4294967296) (u3 / 4294967296)).v] w fun e w' => e = .returned (.tuple #[tE.v, .int .u64 0]) ∧ Below w.heap.size w w') := Hn (fun h w => by
  have k := mi.out w
  rw [(fA h).2, ← htE, show -(d / 115792089237316195423570985008687907853269984665640564039457584007913129639936) = 0 by omega] at k
  exact k)
 have miB : Hid (d < 0 → ∀ w, Calls Tryz.prog 94 #[(lowE n).v, (qcE (u0 % 4294967296) (u1 % 4294967296) (u2 % 4294967296) (u3 % 4294967296) (u3 / 4294967296)).v] w fun e w' => e = .returned (.tuple #[dE.v, .int .u64 1]) ∧ Below w.heap.size w w') := Hn (fun h w => by
  have k := mi.out w
  rw [← hdE, show -(d / 115792089237316195423570985008687907853269984665640564039457584007913129639936) = 1 by omega] at k
  exact k)
 have rl := Hn rl_any
 have m60 := and60 (Sm.lim 3 n) (Sm.lim_wd 3 n).1 (by have := (Sm.lim_wd 3 n).2; omega)
 have HTE := Hn (show tE.is n from htE)
 have HN := Hn hn
 have HOK := Hn hr
 obtain ⟨r0, r1, r2, r3⟩ := hr
 unfold Sm.Wd at r0 r1 r2 r3
 have HQ := Hn hq
 have hq2 : r.x3 / 17592186044416 = q := hq.symm
 have e0' : 1559614445 * q = u0 := e0.symm
 clear fA fB fC hd qn qok eb e0 e1 e2 e3 q0 q1 hL h0 h1 hn hq b0 b1 b2 b3 mi htE hdE
 simp only [E4.v, lE, qcE, lowE] at miA miB pl be rl ⊢
 generalize Sm.lim 0 n = l0 at *
 generalize Sm.lim 1 n = l1 at *
 generalize Sm.lim 2 n = l2 at *
 generalize Sm.lim 3 n = l3 at *
 generalize l3 % 1152921504606846976 = l3m at *
 have U0 : IntKind.u64.wrap u0 = u0 := by rw [← e0']; exact W0
 replace W0 := W0.trans e0'
 clear V0 e0'
 obtain ⟨y1, hy1⟩ : ∃ y, 1477600026 * q = y := ⟨_, rfl⟩
 obtain ⟨y2, hy2⟩ : ∃ y, 2734136534 * q = y := ⟨_, rfl⟩
 obtain ⟨y3, hy3⟩ : ∃ y, 350157278 * q = y := ⟨_, rfl⟩
 replace W1 := W1.trans hy1
 replace W2 := W2.trans hy2
 replace W3 := W3.trans hy3
 rw [hy1] at V1
 rw [hy2] at V2
 rw [hy3] at V3
 clear hy1 hy2 hy3
 generalize u0 % 4294967296 + u1 % 4294967296 * 4294967296 = h0 at *
 generalize u2 % 4294967296 + u3 % 4294967296 * 4294967296 = h1 at *
 generalize u0 % 4294967296 = p0 at *
 generalize u1 % 4294967296 = p1 at *
 generalize u2 % 4294967296 = p2 at *
 generalize u3 % 4294967296 = p3 at *
 have D0 : u0 / 4294967296 = u0 / 4294967296 := rfl
 obtain ⟨c1, hc1⟩ : ∃ c, u0 / 4294967296 = c := ⟨_, rfl⟩
 obtain ⟨c2, hc2⟩ : ∃ c, u1 / 4294967296 = c := ⟨_, rfl⟩
 obtain ⟨c3, hc3⟩ : ∃ c, u2 / 4294967296 = c := ⟨_, rfl⟩
 obtain ⟨c4, hc4⟩ : ∃ c, u3 / 4294967296 = c := ⟨_, rfl⟩
 rw [hc1] at V1
 rw [hc2] at V2
 rw [hc3] at V3
 rw [hc4] at miA miB
 clear D0
 have lit0 : bits .and .u64 6346243789798364141 4294967295 = 1559614445 := (and32 6346243789798364141 (by omega) (by omega)).trans (by decide)
 have lit1 : bits .and .u64 1503914060200516822 4294967295 = 2734136534 := (and32 1503914060200516822 (by omega) (by omega)).trans (by decide)
 have s0 := ((St.start w r 52).room 52).roomR ⟨l0, 0, 0, 0⟩ 52
 simp only [World.size_alloc] at s0
 have S0 := Hn s0
 clear s0
 go_enter Tryz.func89, Tryz.ntmps89
 go_wp2_with fail
 go_loopw [7] (fun i w' => ∃ k : Nat, 1 ≤ k ∧ k ≤ 4 ∧ i = .int .i64 k ∧ St w [(w.heap.size + 1 + 1, lk l0 l1 l2 l3 k), (w.heap.size + 1, zero4), (w.heap.size, r)] [w.heap.size + 1 + 1, w.heap.size + 1] w') (fun i _ => 4 - (intOf i).toNat)
 case atStart => exact ⟨1, by omega, by omega, rfl, S0.out⟩
 case round =>
  obtain ⟨k, hk1, hk, rfl, hst⟩ := hrel
  have ST := Hn hst
  clear hst S0
  by_cases hk4 : k < 4
  ·obtain rfl | rfl | rfl : k = 1 ∨ k = 2 ∨ k = 3 := by omega
   ·rw [show ((1 : Nat) : Int) = 1 from rfl]
    have ra : wr.drew.cell? ⟨w.heap.size, 1, none⟩ = some (.int .u64 r.x1) := (ST.out.live (w.heap.size, r) (by simp)).drew.c1
    have rb : wr.drew.cell? ⟨w.heap.size, 0, none⟩ = some (.int .u64 r.x0) := (ST.out.live (w.heap.size, r) (by simp)).drew.c0
    have oc : wr.drew.cell? ⟨w.heap.size + 1 + 1, 1, none⟩ = some (.int .u64 0) := (ST.out.live (w.heap.size + 1 + 1, lk l0 l1 l2 l3 1) (by simp)).drew.c1
    have of := ((ST.out.drew).wrt (w.heap.size + 1 + 1) (by simp)).1.f1
    have hwi : IntKind.i64.wrap 0 = 0 := IntWalk.i64_in _ (by omega)
    have PU := Hn (ST.out.drew.put (b := w.heap.size + 1 + 1) (o := lk l0 l1 l2 l3 1) (M := [(w.heap.size + 1, zero4), (w.heap.size, r)]) 1 (by omega) l1 (by simp) (by omega) (by simp; omega))
    go_upto_region 7 with fail
    go_region_with fail
    all_goals
     clear ra rb oc of
     go_wp2_with fail
     go_roundw
     case rel => exact ⟨1 + 1, by omega, by omega, by go_num, PU.out⟩
     case measure => simp [intOf]
   ·rw [show ((2 : Nat) : Int) = 2 from rfl]
    have ra : wr.drew.cell? ⟨w.heap.size, 2, none⟩ = some (.int .u64 r.x2) := (ST.out.live (w.heap.size, r) (by simp)).drew.c2
    have rb : wr.drew.cell? ⟨w.heap.size, 1, none⟩ = some (.int .u64 r.x1) := (ST.out.live (w.heap.size, r) (by simp)).drew.c1
    have oc : wr.drew.cell? ⟨w.heap.size + 1 + 1, 2, none⟩ = some (.int .u64 0) := (ST.out.live (w.heap.size + 1 + 1, lk l0 l1 l2 l3 2) (by simp)).drew.c2
    have of := ((ST.out.drew).wrt (w.heap.size + 1 + 1) (by simp)).1.f2
    have hwi : IntKind.i64.wrap 1 = 1 := IntWalk.i64_in _ (by omega)
    have PU := Hn (ST.out.drew.put (b := w.heap.size + 1 + 1) (o := lk l0 l1 l2 l3 2) (M := [(w.heap.size + 1, zero4), (w.heap.size, r)]) 2 (by omega) l2 (by simp) (by omega) (by simp; omega))
    go_upto_region 7 with fail
    go_region_with fail
    all_goals
     clear ra rb oc of
     go_wp2_with fail
     go_roundw
     case rel => exact ⟨2 + 1, by omega, by omega, by go_num, PU.out⟩
     case measure => simp [intOf]
   ·rw [show ((3 : Nat) : Int) = 3 from rfl]
    have ra : wr.drew.cell? ⟨w.heap.size, 3, none⟩ = some (.int .u64 r.x3) := (ST.out.live (w.heap.size, r) (by simp)).drew.c3
    have rb : wr.drew.cell? ⟨w.heap.size, 2, none⟩ = some (.int .u64 r.x2) := (ST.out.live (w.heap.size, r) (by simp)).drew.c2
    have oc : wr.drew.cell? ⟨w.heap.size + 1 + 1, 3, none⟩ = some (.int .u64 0) := (ST.out.live (w.heap.size + 1 + 1, lk l0 l1 l2 l3 3) (by simp)).drew.c3
    have of := ((ST.out.drew).wrt (w.heap.size + 1 + 1) (by simp)).1.f3
    have hwi : IntKind.i64.wrap 2 = 2 := IntWalk.i64_in _ (by omega)
    have PU := Hn (ST.out.drew.put (b := w.heap.size + 1 + 1) (o := lk l0 l1 l2 l3 3) (M := [(w.heap.size + 1, zero4), (w.heap.size, r)]) 3 (by omega) l3 (by simp) (by omega) (by simp; omega))
    go_upto_region 7 with fail
    go_region_with fail
    all_goals
     clear ra rb oc of
     go_wp2_with fail
     go_roundw
     case rel => exact ⟨3 + 1, by omega, by omega, by go_num, PU.out⟩
     case measure => simp [intOf]
  ·have hkk : k = 4 := by omega
   subst hkk
   have S1 := Hn (ST.out.sub (M := [(w.heap.size + 1 + 1, lk l0 l1 l2 l3 4), (w.heap.size + 1, zero4)]) (by simp))
   clear ST k0 k1 k2 k3
   go_upto_region 8 with fail
   go_cut [] (fun wx => St w [(w.heap.size + 1 + 1, ⟨l0, l1, l2, l3m⟩), (w.heap.size + 1, zero4)] [w.heap.size + 1] wx)
   case first =>
    have c3' : wr.cell? ⟨w.heap.size + 1 + 1, 3, none⟩ = some (.int .u64 l3) := (S1.out.live (w.heap.size + 1 + 1, lk l0 l1 l2 l3 4) (by simp)).c3
    have f3' := (S1.out.wrt (w.heap.size + 1 + 1) (by simp)).1.f3
    have PU := Hn (S1.out.put (b := w.heap.size + 1 + 1) (o := lk l0 l1 l2 l3 4) (M := [(w.heap.size + 1, zero4)]) 3 (by omega) l3m (by simp) (by omega) (by simp))
    go_wp2_with fail
    go_meet
    exact St.less (L := [(w.heap.size + 1 + 1, ⟨l0, l1, l2, l3m⟩), (w.heap.size + 1, zero4)]) PU.out (by simp) (by simp)
   case rest =>
   have S2 := Hn hcut
   clear hcut S1 m60
   go_upto_region 9 with fail
   go_cut [8] (fun vx wx => ∃ P8x : Nat, vx = .pointer (some ⟨P8x, 0, none⟩) ∧ w.heap.size + 1 + 1 < P8x ∧ St w [(P8x, lE), (w.heap.size + 1 + 1, ⟨l0, l1, l2, l3m⟩), (w.heap.size + 1, zero4)] [w.heap.size + 1] wx)
   case first =>
    go_wp2_with fail
    refine (rl.out _).mono ?_
    rintro e w2 ⟨rfl, hb2⟩
    have s3 := Hn ((S2.out.keep hb2).new lE 52)
    have hl := ((S2.out.keep hb2).live (w.heap.size + 1 + 1, ⟨l0, l1, l2, l3m⟩) (by simp)).lt
    go_wp2_with fail
    go_meet
    exact ⟨_, rfl, hl, s3.out⟩
   case rest =>
   obtain ⟨P8x, rfl, hP8, s3⟩ := hcut
   have S3 := Hn s3
   clear s3 S2 rl
   go_upto_region 10 with fail
   go_cut [9] (fun vx wx => ∃ P9x : Nat, vx = .pointer (some ⟨P9x, 0, none⟩) ∧ P8x < P9x ∧ St w [(P9x, pk p0 p1 p2 p3 0), (P8x, lE), (w.heap.size + 1 + 1, ⟨l0, l1, l2, l3m⟩), (w.heap.size + 1, zero4)] [P9x, w.heap.size + 1] wx)
   case first =>
    have z0 : wc.cell? ⟨P8x, 0, none⟩ = some (.int .u64 6346243789798364141) := (S3.out.live (P8x, lE) (by simp)).c0
    have z1 : wc.cell? ⟨P8x, 1, none⟩ = some (.int .u64 1503914060200516822) := (S3.out.live (P8x, lE) (by simp)).c1
    have s4 := Hn (S3.out.roomR ⟨1559614445, 1477600026, 2734136534, 350157278⟩ 40)
    have hl := (S3.out.live (P8x, lE) (by simp)).lt
    go_wp2_with fail
    go_meet
    exact ⟨_, rfl, hl, s4.out⟩
   case rest =>
   obtain ⟨P9x, rfl, hP9, s4⟩ := hcut
   have S4 := Hn s4
   clear s4 S3 lit0 lit1 r3 hq2 HQ
   go_wp2_with fail
   go_loopw [10, 11] (fun c i w' => ∃ k : Nat, k ≤ 4 ∧ c = .int .u64 (ckS c1 c2 c3 c4 k) ∧ i = .int .i64 k ∧ St w [(P9x, pk p0 p1 p2 p3 k), (P8x, lE), (w.heap.size + 1 + 1, ⟨l0, l1, l2, l3m⟩), (w.heap.size + 1, zero4)] [P9x, w.heap.size + 1] w') (fun _ i _ => 4 - (intOf i).toNat)
   case atStart => exact ⟨0, by omega, rfl, rfl, S4.out⟩
   case round =>
    obtain ⟨k, hk, rfl, rfl, hst⟩ := hrel
    have ST := Hn hst
    clear hst S4
    by_cases hk4 : k < 4
    ·obtain rfl | rfl | rfl | rfl : k = 0 ∨ k = 1 ∨ k = 2 ∨ k = 3 := by omega
     ·rw [show ((0 : Nat) : Int) = 0 from rfl]
      have zc : wr.cell? ⟨P9x, 0, none⟩ = some (.int .u64 1559614445) := (ST.out.live (P9x, pk p0 p1 p2 p3 0) (by simp)).c0
      have zf := (ST.out.wrt P9x (by simp)).1.f0
      rw [show ckS c1 c2 c3 c4 0 = 0 from rfl]
      have PU := Hn (ST.out.put (b := P9x) (o := pk p0 p1 p2 p3 0) (M := [(P8x, lE), (w.heap.size + 1 + 1, ⟨l0, l1, l2, l3m⟩), (w.heap.size + 1, zero4)]) 0 (by omega) p0 (by simp) (by omega) (by simp; omega))
      go_wp2_with fail
      go_roundw
      case rel => exact ⟨0 + 1, by omega, rfl, by go_num, PU.out⟩
      case measure => simp [intOf]
     ·rw [show ((1 : Nat) : Int) = 1 from rfl]
      have zc : wr.cell? ⟨P9x, 1, none⟩ = some (.int .u64 1477600026) := (ST.out.live (P9x, pk p0 p1 p2 p3 1) (by simp)).c1
      have zf := (ST.out.wrt P9x (by simp)).1.f1
      rw [show ckS c1 c2 c3 c4 1 = c1 from rfl]
      have PU := Hn (ST.out.put (b := P9x) (o := pk p0 p1 p2 p3 1) (M := [(P8x, lE), (w.heap.size + 1 + 1, ⟨l0, l1, l2, l3m⟩), (w.heap.size + 1, zero4)]) 1 (by omega) p1 (by simp) (by omega) (by simp; omega))
      go_wp2_with fail
      go_roundw
      case rel => exact ⟨1 + 1, by omega, rfl, by go_num, PU.out⟩
      case measure => simp [intOf]
     ·rw [show ((2 : Nat) : Int) = 2 from rfl]
      have zc : wr.cell? ⟨P9x, 2, none⟩ = some (.int .u64 2734136534) := (ST.out.live (P9x, pk p0 p1 p2 p3 2) (by simp)).c2
      have zf := (ST.out.wrt P9x (by simp)).1.f2
      rw [show ckS c1 c2 c3 c4 2 = c2 from rfl]
      have PU := Hn (ST.out.put (b := P9x) (o := pk p0 p1 p2 p3 2) (M := [(P8x, lE), (w.heap.size + 1 + 1, ⟨l0, l1, l2, l3m⟩), (w.heap.size + 1, zero4)]) 2 (by omega) p2 (by simp) (by omega) (by simp; omega))
      go_wp2_with fail
      go_roundw
      case rel => exact ⟨2 + 1, by omega, rfl, by go_num, PU.out⟩
      case measure => simp [intOf]
     ·rw [show ((3 : Nat) : Int) = 3 from rfl]
      have zc : wr.cell? ⟨P9x, 3, none⟩ = some (.int .u64 350157278) := (ST.out.live (P9x, pk p0 p1 p2 p3 3) (by simp)).c3
      have zf := (ST.out.wrt P9x (by simp)).1.f3
      rw [show ckS c1 c2 c3 c4 3 = c3 from rfl]
      have PU := Hn (ST.out.put (b := P9x) (o := pk p0 p1 p2 p3 3) (M := [(P8x, lE), (w.heap.size + 1 + 1, ⟨l0, l1, l2, l3m⟩), (w.heap.size + 1, zero4)]) 3 (by omega) p3 (by simp) (by omega) (by simp; omega))
      go_wp2_with fail
      go_roundw
      case rel => exact ⟨3 + 1, by omega, rfl, by go_num, PU.out⟩
      case measure => simp [intOf]
    ·have hkk : k = 4 := by omega
     subst hkk
     have S5 := Hn (ST.out.less (M := [(P9x, pk p0 p1 p2 p3 4), (P8x, lE), (w.heap.size + 1 + 1, ⟨l0, l1, l2, l3m⟩), (w.heap.size + 1, zero4)]) (Q := [w.heap.size + 1]) (by simp) (by simp))
     clear ST
     rw [show ckS c1 c2 c3 c4 4 = c4 from rfl]
     go_upto_region 18 with fail
     go_cut [13] (fun vx wx => ∃ P13x : Nat, vx = .pointer (some ⟨P13x, 0, none⟩) ∧ P9x < P13x ∧ St w [(P13x, ⟨h0, h1, c4, 0⟩), (P8x, lE), (w.heap.size + 1 + 1, ⟨l0, l1, l2, l3m⟩), (w.heap.size + 1, zero4)] [w.heap.size + 1] wx)
     case first =>
      have z0 : wr.cell? ⟨P9x, 0, none⟩ = some (.int .u64 p0) := (S5.out.live (P9x, pk p0 p1 p2 p3 4) (by simp)).c0
      have z1 : wr.cell? ⟨P9x, 1, none⟩ = some (.int .u64 p1) := (S5.out.live (P9x, pk p0 p1 p2 p3 4) (by simp)).c1
      have z2 : wr.cell? ⟨P9x, 2, none⟩ = some (.int .u64 p2) := (S5.out.live (P9x, pk p0 p1 p2 p3 4) (by simp)).c2
      have z3 : wr.cell? ⟨P9x, 3, none⟩ = some (.int .u64 p3) := (S5.out.live (P9x, pk p0 p1 p2 p3 4) (by simp)).c3
      have s6 := (S5.out.new ⟨h0, h1, c4, 0⟩ 52)
      have S6 := Hn (St.less (M := [(wr.heap.size, ⟨h0, h1, c4, 0⟩), (P8x, lE), (w.heap.size + 1 + 1, ⟨l0, l1, l2, l3m⟩), (w.heap.size + 1, zero4)]) (Q := [w.heap.size + 1]) s6 (by simp) (by simp))
      have hl := (S5.out.live (P9x, pk p0 p1 p2 p3 4) (by simp)).lt
      clear s6
      go_wp2_with fail
      go_meet
      exact ⟨_, rfl, hl, S6.out⟩
     case rest =>
     obtain ⟨P13x, rfl, hP13, s6⟩ := hcut
     have S6 := Hn s6
     clear s6 S5 g0 g1 ws1 ws3 A0 A1 A2 A3 V1 V2 V3 W0 W1 W2 W3 U0 hc1 hc2 hc3 hc4
     by_cases hd : 0 ≤ d
     ·have mi := Hn (miA.out hd)
      go_upto_region 19 with fail
      go_cut [14, 15] (fun vx vy wx => ∃ P14x : Nat, vx = .pointer (some ⟨P14x, 0, none⟩) ∧ vy = .int .u64 0 ∧ P13x < P14x ∧ St w [(P14x, tE), (P8x, lE), (w.heap.size + 1, zero4)] [P14x, w.heap.size + 1] wx)
      case first =>
       have za0 : wc.cell? ⟨w.heap.size + 1 + 1, 0, none⟩ = some (.int .u64 l0) := (S6.out.live (w.heap.size + 1 + 1, ⟨l0, l1, l2, l3m⟩) (by simp)).c0
       have za1 : wc.cell? ⟨w.heap.size + 1 + 1, 1, none⟩ = some (.int .u64 l1) := (S6.out.live (w.heap.size + 1 + 1, ⟨l0, l1, l2, l3m⟩) (by simp)).c1
       have za2 : wc.cell? ⟨w.heap.size + 1 + 1, 2, none⟩ = some (.int .u64 l2) := (S6.out.live (w.heap.size + 1 + 1, ⟨l0, l1, l2, l3m⟩) (by simp)).c2
       have za3 : wc.cell? ⟨w.heap.size + 1 + 1, 3, none⟩ = some (.int .u64 l3m) := (S6.out.live (w.heap.size + 1 + 1, ⟨l0, l1, l2, l3m⟩) (by simp)).c3
       have zb0 : wc.cell? ⟨P13x, 0, none⟩ = some (.int .u64 h0) := (S6.out.live (P13x, ⟨h0, h1, c4, 0⟩) (by simp)).c0
       have zb1 : wc.cell? ⟨P13x, 1, none⟩ = some (.int .u64 h1) := (S6.out.live (P13x, ⟨h0, h1, c4, 0⟩) (by simp)).c1
       have zb2 : wc.cell? ⟨P13x, 2, none⟩ = some (.int .u64 c4) := (S6.out.live (P13x, ⟨h0, h1, c4, 0⟩) (by simp)).c2
       have zb3 : wc.cell? ⟨P13x, 3, none⟩ = some (.int .u64 0) := (S6.out.live (P13x, ⟨h0, h1, c4, 0⟩) (by simp)).c3
       go_wp2_with fail
       refine (mi.out _).mono ?_
       rintro e w2 ⟨rfl, hb2⟩
       have s7 := (S6.out.keep hb2).roomR tE 52
       have hl := ((S6.out.keep hb2).live (P13x, ⟨h0, h1, c4, 0⟩) (by simp)).lt
       have S7 := Hn (St.less (M := [(w2.heap.size, tE), (P8x, lE), (w.heap.size + 1, zero4)]) (Q := [w2.heap.size, w.heap.size + 1]) s7 (by simp) (by simp))
       clear s7 za0 za1 za2 za3 zb0 zb1 zb2 zb3
       go_wp2_with fail
       go_meet
       exact ⟨_, rfl, rfl, hl, S7.out⟩
      case rest =>
      obtain ⟨P14x, rfl, rfl, hP14, s7⟩ := hcut
      have S7 := Hn s7
      clear s7 S6
      have za0 := (S7.out.live (P14x, tE) (by simp)).c0
      have za1 := (S7.out.live (P14x, tE) (by simp)).c1
      have za2 := (S7.out.live (P14x, tE) (by simp)).c2
      have za3 := (S7.out.live (P14x, tE) (by simp)).c3
      have zb0 : wc.cell? ⟨P8x, 0, none⟩ = some (.int .u64 6346243789798364141) := (S7.out.live (P8x, lE) (by simp)).c0
      have zb1 : wc.cell? ⟨P8x, 1, none⟩ = some (.int .u64 1503914060200516822) := (S7.out.live (P8x, lE) (by simp)).c1
      have zb2 : wc.cell? ⟨P8x, 2, none⟩ = some (.int .u64 0) := (S7.out.live (P8x, lE) (by simp)).c2
      have zb3 : wc.cell? ⟨P8x, 3, none⟩ = some (.int .u64 1152921504606846976) := (S7.out.live (P8x, lE) (by simp)).c3
      go_wp2_with fail
      refine (be.out _).mono ?_
      rintro e w4 ⟨rfl, hb4⟩
      have s9 := S7.out.keep hb4
      clear za0 za1 za2 za3 zb0 zb1 zb2 zb3
      have za0 := (s9.live (P14x, tE) (by simp)).c0
      have za1 := (s9.live (P14x, tE) (by simp)).c1
      have za2 := (s9.live (P14x, tE) (by simp)).c2
      have za3 := (s9.live (P14x, tE) (by simp)).c3
      have zd0 := (s9.live (w.heap.size + 1, zero4) (by simp)).c0
      have zd1 := (s9.live (w.heap.size + 1, zero4) (by simp)).c1
      have zd2 := (s9.live (w.heap.size + 1, zero4) (by simp)).c2
      have zd3 := (s9.live (w.heap.size + 1, zero4) (by simp)).c3
      obtain ⟨zf0, zf1, zf2, zf3⟩ := (s9.wrt (w.heap.size + 1) (by simp)).1
      have S9 := Hn s9
      clear s9
      go_wp2_with fail
      refine bodyPost_ret (v := .agg #[.int .u64 tE.x0, .int .u64 tE.x1, .int .u64 tE.x2, .int .u64 tE.x3]) (by simp [results, Tryz.results89, go_sem, zd0, zd1, zd2, zd3]) rfl ⟨tE, rfl, by rw [← HN.out]; exact HTE.out, ?_⟩
      exact set4_below _ _ _ S9.out.bel (by omega)
     ·have mi := Hn (miB.out (by omega))
      have plu := Hn (pl.out (by omega))
      go_upto_region 19 with fail
      go_cut [14, 15] (fun vx vy wx => ∃ P14x : Nat, vx = .pointer (some ⟨P14x, 0, none⟩) ∧ vy = .int .u64 1 ∧ P13x < P14x ∧ St w [(P14x, dE), (P8x, lE), (w.heap.size + 1, zero4)] [P14x, w.heap.size + 1] wx)
      case first =>
       have za0 : wc.cell? ⟨w.heap.size + 1 + 1, 0, none⟩ = some (.int .u64 l0) := (S6.out.live (w.heap.size + 1 + 1, ⟨l0, l1, l2, l3m⟩) (by simp)).c0
       have za1 : wc.cell? ⟨w.heap.size + 1 + 1, 1, none⟩ = some (.int .u64 l1) := (S6.out.live (w.heap.size + 1 + 1, ⟨l0, l1, l2, l3m⟩) (by simp)).c1
       have za2 : wc.cell? ⟨w.heap.size + 1 + 1, 2, none⟩ = some (.int .u64 l2) := (S6.out.live (w.heap.size + 1 + 1, ⟨l0, l1, l2, l3m⟩) (by simp)).c2
       have za3 : wc.cell? ⟨w.heap.size + 1 + 1, 3, none⟩ = some (.int .u64 l3m) := (S6.out.live (w.heap.size + 1 + 1, ⟨l0, l1, l2, l3m⟩) (by simp)).c3
       have zb0 : wc.cell? ⟨P13x, 0, none⟩ = some (.int .u64 h0) := (S6.out.live (P13x, ⟨h0, h1, c4, 0⟩) (by simp)).c0
       have zb1 : wc.cell? ⟨P13x, 1, none⟩ = some (.int .u64 h1) := (S6.out.live (P13x, ⟨h0, h1, c4, 0⟩) (by simp)).c1
       have zb2 : wc.cell? ⟨P13x, 2, none⟩ = some (.int .u64 c4) := (S6.out.live (P13x, ⟨h0, h1, c4, 0⟩) (by simp)).c2
       have zb3 : wc.cell? ⟨P13x, 3, none⟩ = some (.int .u64 0) := (S6.out.live (P13x, ⟨h0, h1, c4, 0⟩) (by simp)).c3
       go_wp2_with fail
       refine (mi.out _).mono ?_
       rintro e w2 ⟨rfl, hb2⟩
       have s7 := (S6.out.keep hb2).roomR dE 52
       have hl := ((S6.out.keep hb2).live (P13x, ⟨h0, h1, c4, 0⟩) (by simp)).lt
       have S7 := Hn (St.less (M := [(w2.heap.size, dE), (P8x, lE), (w.heap.size + 1, zero4)]) (Q := [w2.heap.size, w.heap.size + 1]) s7 (by simp) (by simp))
       clear s7 za0 za1 za2 za3 zb0 zb1 zb2 zb3
       go_wp2_with fail
       go_meet
       exact ⟨_, rfl, rfl, hl, S7.out⟩
      case rest =>
      obtain ⟨P14x, rfl, rfl, hP14, s7⟩ := hcut
      have S6b := Hn s7
      clear s7 S6
      go_upto_region 21 with fail
      go_cut [] (fun wx => St w [(P14x, tE), (P8x, lE), (w.heap.size + 1, zero4)] [P14x, w.heap.size + 1] wx)
      case first =>
       have za0 : wc.cell? ⟨P14x, 0, none⟩ = some (.int .u64 dE.x0) := (S6b.out.live (P14x, dE) (by simp)).c0
       have za1 : wc.cell? ⟨P14x, 1, none⟩ = some (.int .u64 dE.x1) := (S6b.out.live (P14x, dE) (by simp)).c1
       have za2 : wc.cell? ⟨P14x, 2, none⟩ = some (.int .u64 dE.x2) := (S6b.out.live (P14x, dE) (by simp)).c2
       have za3 : wc.cell? ⟨P14x, 3, none⟩ = some (.int .u64 dE.x3) := (S6b.out.live (P14x, dE) (by simp)).c3
       have zb0 : wc.cell? ⟨P8x, 0, none⟩ = some (.int .u64 6346243789798364141) := (S6b.out.live (P8x, lE) (by simp)).c0
       have zb1 : wc.cell? ⟨P8x, 1, none⟩ = some (.int .u64 1503914060200516822) := (S6b.out.live (P8x, lE) (by simp)).c1
       have zb2 : wc.cell? ⟨P8x, 2, none⟩ = some (.int .u64 0) := (S6b.out.live (P8x, lE) (by simp)).c2
       have zb3 : wc.cell? ⟨P8x, 3, none⟩ = some (.int .u64 1152921504606846976) := (S6b.out.live (P8x, lE) (by simp)).c3
       go_wp2_with fail
       refine (plu.out _).mono ?_
       rintro e w3 ⟨rfl, hb3⟩
       have s8 := S6b.out.keep hb3
       clear za0 za1 za2 za3 zb0 zb1 zb2 zb3
       have za0 := (s8.live (P14x, dE) (by simp)).c0
       have za1 := (s8.live (P14x, dE) (by simp)).c1
       have za2 := (s8.live (P14x, dE) (by simp)).c2
       have za3 := (s8.live (P14x, dE) (by simp)).c3
       obtain ⟨zf0, zf1, zf2, zf3⟩ := (s8.wrt P14x (by simp)).1
       have S8 := Hn (s8.set (b := P14x) (M := [(P8x, lE), (w.heap.size + 1, zero4)]) tE (old := dE) (by simp) (by omega) (by simp; omega))
       clear s8
       go_wp2_with fail
       go_meet
       exact S8.out
      case rest =>
      have S7 := Hn hcut
      clear hcut S6b
      have za0 := (S7.out.live (P14x, tE) (by simp)).c0
      have za1 := (S7.out.live (P14x, tE) (by simp)).c1
      have za2 := (S7.out.live (P14x, tE) (by simp)).c2
      have za3 := (S7.out.live (P14x, tE) (by simp)).c3
      have zb0 : wc.cell? ⟨P8x, 0, none⟩ = some (.int .u64 6346243789798364141) := (S7.out.live (P8x, lE) (by simp)).c0
      have zb1 : wc.cell? ⟨P8x, 1, none⟩ = some (.int .u64 1503914060200516822) := (S7.out.live (P8x, lE) (by simp)).c1
      have zb2 : wc.cell? ⟨P8x, 2, none⟩ = some (.int .u64 0) := (S7.out.live (P8x, lE) (by simp)).c2
      have zb3 : wc.cell? ⟨P8x, 3, none⟩ = some (.int .u64 1152921504606846976) := (S7.out.live (P8x, lE) (by simp)).c3
      go_wp2_with fail
      refine (be.out _).mono ?_
      rintro e w4 ⟨rfl, hb4⟩
      have s9 := S7.out.keep hb4
      clear za0 za1 za2 za3 zb0 zb1 zb2 zb3
      have za0 := (s9.live (P14x, tE) (by simp)).c0
      have za1 := (s9.live (P14x, tE) (by simp)).c1
      have za2 := (s9.live (P14x, tE) (by simp)).c2
      have za3 := (s9.live (P14x, tE) (by simp)).c3
      have zd0 := (s9.live (w.heap.size + 1, zero4) (by simp)).c0
      have zd1 := (s9.live (w.heap.size + 1, zero4) (by simp)).c1
      have zd2 := (s9.live (w.heap.size + 1, zero4) (by simp)).c2
      have zd3 := (s9.live (w.heap.size + 1, zero4) (by simp)).c3
      obtain ⟨zf0, zf1, zf2, zf3⟩ := (s9.wrt (w.heap.size + 1) (by simp)).1
      have S9 := Hn s9
      clear s9
      go_wp2_with fail
      refine bodyPost_ret (v := .agg #[.int .u64 tE.x0, .int .u64 tE.x1, .int .u64 tE.x2, .int .u64 tE.x3]) (by simp [results, Tryz.results89, go_sem, zd0, zd1, zd2, zd3]) rfl ⟨tE, rfl, by rw [← HN.out]; exact HTE.out, ?_⟩
      exact set4_below _ _ _ S9.out.bel (by omega)
end Go.Proofs.YtghcfcglakbkeaaGreatDoor
