import Derived.Test.YtljmgfclhbadjaaGreatDoorTk
import Derived.Test.YtljmgfclhbadjaaGreatDoorSz
namespace Go.Proofs.YtljmgfclhbadjaaGreatDoor
open Go.RowKit
def Ri : Int := 4458503529701987551646482192314240623644693141688353256590997718326214331684
theorem mont_end (A b T M : Int) (h : 115792089237316195423570985008687907853269984665640564039457584007913129639936 * T = A * b + M * Sm.L) : T % Sm.L = A * b * Ri % Sm.L := by
 have e : T = A * b * Ri + Sm.L * (M * Ri - T * 71336056475231800826343715077027849978041630819377026201054086228062141447707) := by
  have k : 115792089237316195423570985008687907853269984665640564039457584007913129639936 * Ri = 1 + 71336056475231800826343715077027849978041630819377026201054086228062141447707 * Sm.L := rfl
  have h2 : 115792089237316195423570985008687907853269984665640564039457584007913129639936 * T * Ri = (A * b + M * Sm.L) * Ri := by rw [h]
  have h3 : 115792089237316195423570985008687907853269984665640564039457584007913129639936 * T * Ri = T * (115792089237316195423570985008687907853269984665640564039457584007913129639936 * Ri) := by rw [Int.mul_comm 115792089237316195423570985008687907853269984665640564039457584007913129639936 T, Int.mul_assoc]
  rw [h3, k] at h2
  generalize Ri = r at *
  generalize Sm.L = l at *
  grind
 have e2 := congrArg (fun z => z % Sm.L) e
 simp only [Int.add_mul_emod_self_left] at e2
 exact e2
def E4.get (a : E4) : Nat → Int
 | 0 => a.x0
 | 1 => a.x1
 | 2 => a.x2
 | _ => a.x3
def E4.low (a : E4) : Nat → Int
 | 0 => 0
 | k + 1 => a.low k + 18446744073709551616 ^ k * a.get k
theorem E4.get_wd {a : E4} (h : a.ok) (k : Nat) : Sm.Wd (a.get k) := by
 obtain ⟨h0, h1, h2, h3⟩ := h
 unfold E4.get; split <;> assumption
theorem E4.low4 (a : E4) : a.low 4 = a.n := by
 simp only [E4.low, E4.get, E4.n, Sm.V]; grind
theorem E4.low_bd {a : E4} (h : a.ok) (k : Nat) : 0 ≤ a.low k ∧ a.low k ≤ 18446744073709551616 ^ k - 1 := by
 induction k with
 | zero => simp [E4.low]
 | succ k ih =>
  have hg := E4.get_wd h k
  unfold Sm.Wd at hg
  have hp : (0 : Int) < 18446744073709551616 ^ k := Int.pow_pos (by decide)
  simp only [E4.low, Int.pow_succ]
  generalize (18446744073709551616 : Int) ^ k = p at *
  have h1 : 0 ≤ p * a.get k := Int.mul_nonneg (by omega) hg.1
  have h2 : p * a.get k ≤ p * (18446744073709551616 - 1) := Int.mul_le_mul_of_nonneg_left (by omega) (by omega)
  rw [Int.mul_sub] at h2
  constructor
  ·omega
  ·omega
theorem Blc.get {w : World} {b : Nat} {a : E4} (h : Blc w b a) (k : Nat) (hk : k < 4) : w.cell? ⟨b, k, none⟩ = some (.int .u64 (a.get k)) := by
 match k, hk with
 | 0, _ => exact h.c0
 | 1, _ => exact h.c1
 | 2, _ => exact h.c2
 | 3, _ => exact h.c3
def Inv (a : E4) (bn : Int) (k : Nat) (T : Int) : Prop := ∃ M : Int, 0 ≤ M ∧ M ≤ 18446744073709551616 ^ k - 1 ∧ 18446744073709551616 ^ k * T = a.low k * bn + M * Sm.L
theorem Inv.lt {a : E4} {bn T : Int} {k : Nat} (h : Inv a bn k T) (ha : a.ok) (hb0 : 0 ≤ bn) (hb : bn < Sm.L) : T < 2 * Sm.L := by
 obtain ⟨M, h0, h1, h2⟩ := h
 have hl := E4.low_bd ha k
 have hp : (0 : Int) < 18446744073709551616 ^ k := Int.pow_pos (by decide)
 generalize (18446744073709551616 : Int) ^ k = p at *
 have g1 : a.low k * bn ≤ (p - 1) * bn := Int.mul_le_mul_of_nonneg_right hl.2 hb0
 have g2 : M * Sm.L ≤ (p - 1) * Sm.L := Int.mul_le_mul_of_nonneg_right h1 (by decide)
 have g3 : p * T < p * (2 * Sm.L) := by
  have g4 : p * bn ≤ p * Sm.L := Int.mul_le_mul_of_nonneg_left (by omega) (by omega)
  rw [Int.sub_mul] at g1 g2
  have hLp : (0 : Int) < Sm.L := by decide
  have : p * (2 * Sm.L) = p * Sm.L + p * Sm.L := by grind
  omega
 exact Int.lt_of_mul_lt_mul_left g3 (by omega)
theorem Inv.next {a : E4} {bn T T' m : Int} {k : Nat} (h : Inv a bn k T) (hm : Sm.Wd m) (e : 18446744073709551616 * T' = T + a.get k * bn + m * Sm.L) : Inv a bn (k + 1) T' := by
 obtain ⟨M, h0, h1, h2⟩ := h
 unfold Sm.Wd at hm
 have hp : (0 : Int) < 18446744073709551616 ^ k := Int.pow_pos (by decide)
 refine ⟨M + 18446744073709551616 ^ k * m, ?_, ?_, ?_⟩
 ·have := Int.mul_nonneg (Int.le_of_lt hp) hm.1
  omega
 ·rw [Int.pow_succ]
  generalize (18446744073709551616 : Int) ^ k = p at *
  have h2 : p * m ≤ p * (18446744073709551616 - 1) := Int.mul_le_mul_of_nonneg_left (by omega) (by omega)
  rw [Int.mul_sub] at h2
  omega
 ·simp only [E4.low]
  rw [Int.pow_succ, Int.mul_assoc, e]
  generalize (18446744073709551616 : Int) ^ k = p at *
  generalize a.get k = g at *
  generalize Sm.L = l at *
  grind
theorem Inv.start (a : E4) (bn : Int) : Inv a bn 0 0 := ⟨0, by omega, by simp, by simp [E4.low]⟩
theorem Inv.done {a : E4} {bn T : Int} (h : Inv a bn 4 T) : T % Sm.L = a.n * bn * Ri % Sm.L := by
 obtain ⟨M, -, -, h2⟩ := h
 rw [E4.low4] at h2
 exact mont_end _ _ _ M h2
theorem step_at (x b t c p : Int) (e : p = x * b + t + c) (hx : Sm.Wd x) (hb : Sm.Wd b) (ht : Sm.Wd t) (hc : Sm.Wd c) :
  (Sm.Wd (p / 18446744073709551616) ∧ Sm.Wd (p % 18446744073709551616)) ∧ ∀ w : World, Calls Tryz.prog 232 #[.int .u64 x, .int .u64 b, .int .u64 t, .int .u64 c] w fun e w' => e = .returned (.tuple #[.int .u64 (p / 18446744073709551616), .int .u64 (p % 18446744073709551616)]) ∧ w' = w := by
 subst e
 have := Sm.step_lt x b t c hx hb ht hc
 refine ⟨⟨?_, ?_⟩, fun w => step_any x b t c w hx hb ht hc⟩
 ·unfold Sm.Wd; omega
 ·unfold Sm.Wd; omega
def lE : E4 := ⟨6346243789798364141, 1503914060200516822, 0, 1152921504606846976⟩
set_option maxRecDepth 100000 in
set_option maxHeartbeats 4000000 in
theorem montgomery_any (a b : E4) (w : World) (hT : Tb w) (ha : a.ok) (hb : b.ok) (hbL : b.n < Sm.L) :
  Calls Tryz.prog 184 #[a.v, b.v] w fun e w' => ∃ r : E4, e = .returned r.v ∧ r.is (a.n * b.n * Ri) ∧ Below w.heap.size w w' := by
 have HA := Hn ha
 have HB := Hn hb
 have HL := Hn hbL
 have HT := Hn hT
 obtain ⟨t0, t1, t2, t3, -⟩ := hT
 have hz0 : 1 < w.heap.size := World.block_lt_of_cell? w ⟨1, 0, none⟩ t0
 have hzA : ¬ w.heap.size = 1 := by omega
 have hzB : ¬ 1 = w.heap.size := by omega
 have hzC : 0 < w.heap.size := by omega
 have hzD : 1 < w.heap.size + 1 := by omega
 have hzE : 1 < w.heap.size + 1 + 1 := by omega
 have s0 := ((((St.start w a 53).new b 53).room 53).new lE 53)
 simp only [World.size_alloc] at s0
 have S0 := Hn s0
 clear s0 ha hb hbL
 simp only [E4.v]
 go_enter Tryz.func184, Tryz.ntmps184
 go_wp2_with fail
 go_loopw [6, 7, 8, 9, 16] (fun v0 v1 v2 v3 i w' => ∃ (k : Nat) (T0 T1 T2 T3 : Int), k ≤ 4 ∧ i = .int .i64 k ∧ v0 = .int .u64 T0 ∧ v1 = .int .u64 T1 ∧ v2 = .int .u64 T2 ∧ v3 = .int .u64 T3 ∧ (Sm.Wd T0 ∧ Sm.Wd T1 ∧ Sm.Wd T2 ∧ Sm.Wd T3) ∧ Inv a b.n k (Sm.V T0 T1 T2 T3) ∧ St w [(w.heap.size + 1 + 1 + 1, lE), (w.heap.size + 1 + 1, zero4), (w.heap.size + 1, b), (w.heap.size, a)] [w.heap.size + 1 + 1] w') (fun _ _ _ _ i _ => 4 - (intOf i).toNat)
 case atStart =>
  refine ⟨0, 0, 0, 0, 0, by omega, rfl, rfl, rfl, rfl, rfl, ⟨by unfold Sm.Wd; omega, by unfold Sm.Wd; omega, by unfold Sm.Wd; omega, by unfold Sm.Wd; omega⟩, Inv.start _ _, ?_⟩
  exact S0.out
 case round =>
  obtain ⟨k, T0, T1, T2, T3, hk, rfl, rfl, rfl, rfl, rfl, hTw, hInv, hst⟩ := hrel
  clear S0
  by_cases hk4 : k < 4
  ·have hx := E4.get_wd HA.out k
   have hxc := (hst.live (w.heap.size, a) (by simp)).get k hk4
   obtain ⟨hT0, hT1, hT2, hT3⟩ := hTw
   obtain ⟨hB0, hB1, hB2, hB3⟩ := HB.out
   have hB00 : 0 ≤ b.n := (Sm.V_bd _ _ _ _ hB0 hB1 hB2 hB3).1
   have hTL := hInv.lt HA.out hB00 HL.out
   have HI := Hn hInv
   clear hInv
   have w0 : Sm.Wd 0 := by unfold Sm.Wd; omega
   have wl0 : Sm.Wd 6346243789798364141 := by unfold Sm.Wd; omega
   have wl1 : Sm.Wd 1503914060200516822 := by unfold Sm.Wd; omega
   have wl3 : Sm.Wd 1152921504606846976 := by unfold Sm.Wd; omega
   generalize hxe : a.get k = x at *
   obtain ⟨p0, e0⟩ : ∃ p, p = x * b.x0 + T0 + 0 := ⟨_, rfl⟩
   obtain ⟨⟨k0, k0'⟩, c0⟩ := step_at _ _ _ _ p0 e0 hx hB0 hT0 w0
   obtain ⟨p1, e1⟩ : ∃ p, p = x * b.x1 + T1 + p0 / 18446744073709551616 := ⟨_, rfl⟩
   obtain ⟨⟨k1, k1'⟩, c1⟩ := step_at _ _ _ _ p1 e1 hx hB1 hT1 k0
   obtain ⟨p2, e2⟩ : ∃ p, p = x * b.x2 + T2 + p1 / 18446744073709551616 := ⟨_, rfl⟩
   obtain ⟨⟨k2, k2'⟩, c2⟩ := step_at _ _ _ _ p2 e2 hx hB2 hT2 k1
   obtain ⟨p3, e3⟩ : ∃ p, p = x * b.x3 + T3 + p2 / 18446744073709551616 := ⟨_, rfl⟩
   obtain ⟨⟨k3, k3'⟩, c3⟩ := step_at _ _ _ _ p3 e3 hx hB3 hT3 k2
   obtain ⟨m, em⟩ : ∃ m, m = p0 % 18446744073709551616 * 15183074304973897243 % 18446744073709551616 := ⟨_, rfl⟩
   have wm : Sm.Wd m := by unfold Sm.Wd; omega
   have hw : IntKind.u64.wrap (p0 % 18446744073709551616 * 15183074304973897243) = m := by rw [IntKind.wrap_u64, em]
   obtain ⟨q0, f0⟩ : ∃ p, p = m * 6346243789798364141 + p0 % 18446744073709551616 + 0 := ⟨_, rfl⟩
   obtain ⟨⟨j0, j0'⟩, d0⟩ := step_at _ _ _ _ q0 f0 wm wl0 k0' w0
   obtain ⟨q1, f1⟩ : ∃ p, p = m * 1503914060200516822 + p1 % 18446744073709551616 + q0 / 18446744073709551616 := ⟨_, rfl⟩
   obtain ⟨⟨j1, j1'⟩, d1⟩ := step_at _ _ _ _ q1 f1 wm wl1 k1' j0
   obtain ⟨q2, f2⟩ : ∃ p, p = m * 0 + p2 % 18446744073709551616 + q1 / 18446744073709551616 := ⟨_, rfl⟩
   obtain ⟨⟨j2, j2'⟩, d2⟩ := step_at _ _ _ _ q2 f2 wm w0 k2' j1
   obtain ⟨q3, f3⟩ : ∃ p, p = m * 1152921504606846976 + p3 % 18446744073709551616 + q2 / 18446744073709551616 := ⟨_, rfl⟩
   obtain ⟨⟨j3, j3'⟩, d3⟩ := step_at _ _ _ _ q3 f3 wm wl3 k3' j2
   obtain ⟨⟨-, r1, r2, r3, r4⟩, RE⟩ := Sm.round_math x b.x0 b.x1 b.x2 b.x3 T0 T1 T2 T3 hx hB0 hB1 hB2 hB3 hT0 hT1 hT2 hT3 HL.out hTL p0 p1 p2 p3 m q0 q1 q2 q3 e0 e1 e2 e3 em f0 f1 f2 f3
   have hw4 : IntKind.u64.wrap (p3 / 18446744073709551616 + q3 / 18446744073709551616) = p3 / 18446744073709551616 + q3 / 18446744073709551616 := by unfold Sm.Wd at r4; rw [IntKind.wrap_u64]; omega
   rw [← hxe] at RE
   have NX := Hn (HI.out.next wm RE)
   rw [hxe] at RE
   have NW := Hn (And.intro r1 (And.intro r2 (And.intro r3 r4)))
   clear RE HI r1 r2 r3 e0 e1 e2 e3 em f0 f1 f2 f3 k0 k0' k1 k1' k2 k2' k3' j0 j0' j1 j1' j2 j2' j3' wm w0 wl0 wl1 wl3 hT0 hT1 hT2 hT3 hB0 hB1 hB2 hB3 hB00 hTL hx
   unfold Sm.Wd at r4
   generalize p0 / 18446744073709551616 = p0h at *
   generalize p0 % 18446744073709551616 = p0l at *
   generalize p1 / 18446744073709551616 = p1h at *
   generalize p1 % 18446744073709551616 = p1l at *
   generalize p2 / 18446744073709551616 = p2h at *
   generalize p2 % 18446744073709551616 = p2l at *
   generalize p3 / 18446744073709551616 = p3h at *
   generalize p3 % 18446744073709551616 = p3l at *
   generalize q0 / 18446744073709551616 = q0h at *
   generalize q0 % 18446744073709551616 = q0l at *
   generalize q1 / 18446744073709551616 = q1h at *
   generalize q1 % 18446744073709551616 = q1l at *
   generalize q2 / 18446744073709551616 = q2h at *
   generalize q2 % 18446744073709551616 = q2l at *
   generalize q3 / 18446744073709551616 = q3h at *
   generalize q3 % 18446744073709551616 = q3l at *
   have C0 := Hn c0
   have C1 := Hn c1
   have C2 := Hn c2
   have C3 := Hn c3
   have D0 := Hn d0
   have D1 := Hn d1
   have D2 := Hn d2
   have D3 := Hn d3
   clear c0 c1 c2 c3 d0 d1 d2 d3
   have kk0 : (0 : Int) ≤ (k : Int) := by omega
   have kk1 : (k : Int) < 4 := by omega
   have KS : ∀ w', St w [(w.heap.size + 1 + 1 + 1, lE), (w.heap.size + 1 + 1, zero4), (w.heap.size + 1, b), (w.heap.size, a)] [w.heap.size + 1 + 1] w' → (fun w' : World => St w [(w.heap.size + 1 + 1 + 1, lE), (w.heap.size + 1 + 1, zero4), (w.heap.size + 1, b), (w.heap.size, a)] [w.heap.size + 1 + 1] w' ∧ w'.cell? ⟨w.heap.size, k, none⟩ = some (.int .u64 x) ∧ w'.cell? ⟨w.heap.size + 1, 0, none⟩ = some (.int .u64 b.x0) ∧ w'.cell? ⟨w.heap.size + 1, 1, none⟩ = some (.int .u64 b.x1) ∧ w'.cell? ⟨w.heap.size + 1, 2, none⟩ = some (.int .u64 b.x2) ∧ w'.cell? ⟨w.heap.size + 1, 3, none⟩ = some (.int .u64 b.x3)) w' := fun w' h => ⟨h, by rw [← hxe]; exact (h.live (w.heap.size, a) (by simp)).get k hk4, (h.live (w.heap.size + 1, b) (by simp)).c0, (h.live (w.heap.size + 1, b) (by simp)).c1, (h.live (w.heap.size + 1, b) (by simp)).c2, (h.live (w.heap.size + 1, b) (by simp)).c3⟩
   have K0 := Hn (KS _ hst.drew)
   have K1 := Hn (KS _ hst.drew.drew)
   have K2 := Hn (KS _ hst.drew.drew.drew)
   have K3 := Hn (KS _ hst.drew.drew.drew.drew)
   have S4 := Hn hst.drew.drew.drew.drew
   have HXC := Hn hxc
   clear KS hst hxc
   go_upto_region 6 with fail
   go_region_held3 (fun w' : World => St w [(w.heap.size + 1 + 1 + 1, lE), (w.heap.size + 1 + 1, zero4), (w.heap.size + 1, b), (w.heap.size, a)] [w.heap.size + 1 + 1] w' ∧ w'.cell? ⟨w.heap.size, k, none⟩ = some (.int .u64 x) ∧ w'.cell? ⟨w.heap.size + 1, 0, none⟩ = some (.int .u64 b.x0) ∧ w'.cell? ⟨w.heap.size + 1, 1, none⟩ = some (.int .u64 b.x1) ∧ w'.cell? ⟨w.heap.size + 1, 2, none⟩ = some (.int .u64 b.x2) ∧ w'.cell? ⟨w.heap.size + 1, 3, none⟩ = some (.int .u64 b.x3)) (with_reducible exact K0.out) (first | (go_at_call 232; refine (C0.out _).mono ?_; rintro e wA ⟨rfl, rfl⟩))
   go_upto_region 7 with fail
   go_region_held3 (fun w' : World => St w [(w.heap.size + 1 + 1 + 1, lE), (w.heap.size + 1 + 1, zero4), (w.heap.size + 1, b), (w.heap.size, a)] [w.heap.size + 1 + 1] w' ∧ w'.cell? ⟨w.heap.size, k, none⟩ = some (.int .u64 x) ∧ w'.cell? ⟨w.heap.size + 1, 0, none⟩ = some (.int .u64 b.x0) ∧ w'.cell? ⟨w.heap.size + 1, 1, none⟩ = some (.int .u64 b.x1) ∧ w'.cell? ⟨w.heap.size + 1, 2, none⟩ = some (.int .u64 b.x2) ∧ w'.cell? ⟨w.heap.size + 1, 3, none⟩ = some (.int .u64 b.x3)) (with_reducible exact K1.out) (first | (go_at_call 232; refine (C1.out _).mono ?_; rintro e wA ⟨rfl, rfl⟩))
   go_upto_region 8 with fail
   go_region_held3 (fun w' : World => St w [(w.heap.size + 1 + 1 + 1, lE), (w.heap.size + 1 + 1, zero4), (w.heap.size + 1, b), (w.heap.size, a)] [w.heap.size + 1 + 1] w' ∧ w'.cell? ⟨w.heap.size, k, none⟩ = some (.int .u64 x) ∧ w'.cell? ⟨w.heap.size + 1, 0, none⟩ = some (.int .u64 b.x0) ∧ w'.cell? ⟨w.heap.size + 1, 1, none⟩ = some (.int .u64 b.x1) ∧ w'.cell? ⟨w.heap.size + 1, 2, none⟩ = some (.int .u64 b.x2) ∧ w'.cell? ⟨w.heap.size + 1, 3, none⟩ = some (.int .u64 b.x3)) (with_reducible exact K2.out) (first | (go_at_call 232; refine (C2.out _).mono ?_; rintro e wA ⟨rfl, rfl⟩))
   go_upto_region 9 with fail
   go_region_held3 (fun w' : World => St w [(w.heap.size + 1 + 1 + 1, lE), (w.heap.size + 1 + 1, zero4), (w.heap.size + 1, b), (w.heap.size, a)] [w.heap.size + 1 + 1] w' ∧ w'.cell? ⟨w.heap.size, k, none⟩ = some (.int .u64 x) ∧ w'.cell? ⟨w.heap.size + 1, 0, none⟩ = some (.int .u64 b.x0) ∧ w'.cell? ⟨w.heap.size + 1, 1, none⟩ = some (.int .u64 b.x1) ∧ w'.cell? ⟨w.heap.size + 1, 2, none⟩ = some (.int .u64 b.x2) ∧ w'.cell? ⟨w.heap.size + 1, 3, none⟩ = some (.int .u64 b.x3)) (with_reducible exact K3.out) (first | (go_at_call 232; refine (C3.out _).mono ?_; rintro e wA ⟨rfl, rfl⟩))
   generalize wr.drew.drew.drew.drew = wd at *
   have l0 : wd.cell? ⟨w.heap.size + 1 + 1 + 1, 0, none⟩ = some (.int .u64 6346243789798364141) := (S4.out.live (w.heap.size + 1 + 1 + 1, lE) (by simp)).c0
   have l1 : wd.cell? ⟨w.heap.size + 1 + 1 + 1, 1, none⟩ = some (.int .u64 1503914060200516822) := (S4.out.live (w.heap.size + 1 + 1 + 1, lE) (by simp)).c1
   have l2 : wd.cell? ⟨w.heap.size + 1 + 1 + 1, 2, none⟩ = some (.int .u64 0) := (S4.out.live (w.heap.size + 1 + 1 + 1, lE) (by simp)).c2
   have l3 : wd.cell? ⟨w.heap.size + 1 + 1 + 1, 3, none⟩ = some (.int .u64 1152921504606846976) := (S4.out.live (w.heap.size + 1 + 1 + 1, lE) (by simp)).c3
   clear K0 K1 K2 K3 C0 C1 C2 C3 t0 t1 t2 t3
   go_wp2_with fail
   refine (D0.out _).mono ?_
   rintro e wA ⟨rfl, rfl⟩
   clear D0
   go_wp2_with fail
   refine (D1.out _).mono ?_
   rintro e wA ⟨rfl, rfl⟩
   clear D1
   go_wp2_with fail
   refine (D2.out _).mono ?_
   rintro e wA ⟨rfl, rfl⟩
   clear D2
   go_wp2_with fail
   refine (D3.out _).mono ?_
   rintro e wA ⟨rfl, rfl⟩
   clear D3 l0 l1 l2 l3
   go_wp2_with fail
   go_roundw
   case rel => exact ⟨k + 1, q1l, q2l, q3l, p3h + q3h, by omega, by go_num, rfl, rfl, rfl, rfl, NW.out, NX.out, S4.out⟩
   case measure => simp [intOf]; omega
  ·have hkk : k = 4 := by omega
   subst hkk
   clear t0 t1 t2 t3
   have hB00 : 0 ≤ b.n := (Sm.V_bd _ _ _ _ HB.out.1 HB.out.2.1 HB.out.2.2.1 HB.out.2.2.2).1
   have hTL := hInv.lt HA.out hB00 HL.out
   have LO := Hn (ret4 (m := a.n * b.n * Ri) hInv.done (lessOnce_any T0 T1 T2 T3 wr (hst.tb HT.out) hTw.1 hTw.2.1 hTw.2.2.1 hTw.2.2.2 hTL))
   obtain ⟨z0, z1, z2, z3⟩ := hst.live (w.heap.size + 1 + 1, zero4) (by simp)
   obtain ⟨g0, g1, g2, g3⟩ := (hst.wrt (w.heap.size + 1 + 1) (by simp)).1
   have BL := Hn hst.bel
   clear hst hTL hInv hTw hB00
   go_wp2_with fail
   refine LO.out.mono ?_
   rintro e wA ⟨r, rfl, hr, rfl⟩
   clear LO
   go_wp2_with fail
   refine bodyPost_ret (v := .agg #[.int .u64 r.x0, .int .u64 r.x1, .int .u64 r.x2, .int .u64 r.x3]) (by simp [results, Tryz.results184, go_sem, z0, z1, z2, z3]) rfl ⟨r, rfl, hr, ?_⟩
   exact set4_below _ _ _ BL.out (by omega)
end Go.Proofs.YtljmgfclhbadjaaGreatDoor
