namespace Go.Proofs.YtimjfndaleccaaaDoor.Sm
-- B = 2^64, the prime is L
def V (a0 a1 a2 a3 : Int) : Int := a0 + 18446744073709551616 * a1 + 340282366920938463463374607431768211456 * a2 + 6277101735386680763835789423207666416102355444464034512896 * a3
def L : Int := 7237005577332262213973186563042994240857116359379907606001950938285454250989
def Wd (x : Int) : Prop := 0 ≤ x ∧ x < 18446744073709551616
def lim (i : Nat) (n : Int) : Int := match i with
 | 0 => n % 18446744073709551616
 | 1 => n / 18446744073709551616 % 18446744073709551616
 | 2 => n / 340282366920938463463374607431768211456 % 18446744073709551616
 | _ => n / 6277101735386680763835789423207666416102355444464034512896 % 18446744073709551616
theorem lim_wd (i : Nat) (n : Int) : Wd (lim i n) := by
 unfold lim Wd; split <;> omega
theorem lim_of (n d0 d1 d2 d3 k : Int) (h0 : Wd d0) (h1 : Wd d1) (h2 : Wd d2) (h3 : Wd d3) (hn : V d0 d1 d2 d3 + 115792089237316195423570985008687907853269984665640564039457584007913129639936 * k = n) :
  d0 = lim 0 n ∧ d1 = lim 1 n ∧ d2 = lim 2 n ∧ d3 = lim 3 n := by
 unfold V at hn; unfold Wd at *
 simp only [lim]
 have e0 : n / 18446744073709551616 = d1 + 18446744073709551616 * d2 + 340282366920938463463374607431768211456 * d3 + 6277101735386680763835789423207666416102355444464034512896 * k := by omega
 have e1 : n / 340282366920938463463374607431768211456 = d2 + 18446744073709551616 * d3 + 340282366920938463463374607431768211456 * k := by omega
 have e2 : n / 6277101735386680763835789423207666416102355444464034512896 = d3 + 18446744073709551616 * k := by omega
 rw [e0, e1, e2]
 refine ⟨by omega, by omega, by omega, by omega⟩
theorem V_bd (a0 a1 a2 a3 : Int) (h0 : Wd a0) (h1 : Wd a1) (h2 : Wd a2) (h3 : Wd a3) : 0 ≤ V a0 a1 a2 a3 ∧ V a0 a1 a2 a3 < 115792089237316195423570985008687907853269984665640564039457584007913129639936 := by
 unfold V; unfold Wd at *; omega
theorem V_lim (n : Int) (h0 : 0 ≤ n) (h1 : n < 115792089237316195423570985008687907853269984665640564039457584007913129639936) : V (lim 0 n) (lim 1 n) (lim 2 n) (lim 3 n) = n := by
 unfold V; simp only [lim]
 have f1 : n / 340282366920938463463374607431768211456 = n / 18446744073709551616 / 18446744073709551616 := by omega
 have f2 : n / 6277101735386680763835789423207666416102355444464034512896 = n / 340282366920938463463374607431768211456 / 18446744073709551616 := by omega
 generalize hx1 : n / 18446744073709551616 = x1 at *
 generalize hx2 : n / 340282366920938463463374607431768211456 = x2 at *
 generalize hx3 : n / 6277101735386680763835789423207666416102355444464034512896 = x3 at *
 omega
theorem V_inj {a0 a1 a2 a3 n : Int} (h0 : Wd a0) (h1 : Wd a1) (h2 : Wd a2) (h3 : Wd a3) (hn : V a0 a1 a2 a3 = n) :
  a0 = lim 0 n ∧ a1 = lim 1 n ∧ a2 = lim 2 n ∧ a3 = lim 3 n := lim_of n a0 a1 a2 a3 0 h0 h1 h2 h3 (by omega)
theorem sum_math (a0 a1 a2 a3 b0 b1 b2 b3 c1 c2 c3 : Int)
  (e1 : c1 = (a0 + b0 + 0) / 18446744073709551616) (e2 : c2 = (a1 + b1 + c1) / 18446744073709551616) (e3 : c3 = (a2 + b2 + c2) / 18446744073709551616) :
  (a0 + b0 + 0) % 18446744073709551616 = lim 0 (V a0 a1 a2 a3 + V b0 b1 b2 b3) ∧ (a1 + b1 + c1) % 18446744073709551616 = lim 1 (V a0 a1 a2 a3 + V b0 b1 b2 b3) ∧ (a2 + b2 + c2) % 18446744073709551616 = lim 2 (V a0 a1 a2 a3 + V b0 b1 b2 b3) ∧ (a3 + b3 + c3) % 18446744073709551616 = lim 3 (V a0 a1 a2 a3 + V b0 b1 b2 b3) := by
 refine lim_of _ _ _ _ _ ((a3 + b3 + c3) / 18446744073709551616) ?_ ?_ ?_ ?_ ?_
 ·unfold Wd; omega
 ·unfold Wd; omega
 ·unfold Wd; omega
 ·unfold Wd; omega
 ·unfold V; omega
theorem sub_math (a0 a1 a2 a3 b0 b1 b2 b3 c1 c2 c3 : Int)
  (e1 : c1 = -((a0 - b0 - 0) / 18446744073709551616)) (e2 : c2 = -((a1 - b1 - c1) / 18446744073709551616)) (e3 : c3 = -((a2 - b2 - c2) / 18446744073709551616)) :
  ((a0 - b0 - 0) % 18446744073709551616 = lim 0 (V a0 a1 a2 a3 - V b0 b1 b2 b3) ∧ (a1 - b1 - c1) % 18446744073709551616 = lim 1 (V a0 a1 a2 a3 - V b0 b1 b2 b3) ∧ (a2 - b2 - c2) % 18446744073709551616 = lim 2 (V a0 a1 a2 a3 - V b0 b1 b2 b3) ∧ (a3 - b3 - c3) % 18446744073709551616 = lim 3 (V a0 a1 a2 a3 - V b0 b1 b2 b3)) ∧ -((a3 - b3 - c3) / 18446744073709551616) = -((V a0 a1 a2 a3 - V b0 b1 b2 b3) / 115792089237316195423570985008687907853269984665640564039457584007913129639936) := by
 constructor
 ·refine lim_of _ _ _ _ _ ((a3 - b3 - c3) / 18446744073709551616) ?_ ?_ ?_ ?_ ?_
  ·unfold Wd; omega
  ·unfold Wd; omega
  ·unfold Wd; omega
  ·unfold Wd; omega
  ·unfold V; omega
 ·unfold V; omega
theorem borrow (x y c : Int) (hx : Wd x) (hy : Wd y) (h0 : 0 ≤ c) (h1 : c ≤ 1) : 0 ≤ -((x - y - c) / 18446744073709551616) ∧ -((x - y - c) / 18446744073709551616) ≤ 1 := by
 unfold Wd at *; omega
theorem least_math (a0 a1 a2 a3 : Int) (h0 : Wd a0) (h1 : Wd a1) (h2 : Wd a2) (h3 : Wd a3) (q : Int) (hq : q = a3 / 1152921504606846976 - (a3 / 1152921504606846976 + 15) / 16) :
  0 ≤ q ∧ q ≤ 14 ∧ 0 ≤ V a0 a1 a2 a3 - q * L ∧ V a0 a1 a2 a3 - q * L < 2 * L := by
 unfold Wd at *
 have hd : 0 ≤ a3 / 1152921504606846976 ∧ a3 / 1152921504606846976 ≤ 15 := by omega
 have hV : a3 / 1152921504606846976 * 7237005577332262213973186563042994240829374041602535252466099000494570602496 ≤ V a0 a1 a2 a3 ∧ V a0 a1 a2 a3 < (a3 / 1152921504606846976 + 1) * 7237005577332262213973186563042994240829374041602535252466099000494570602496 := by unfold V; omega
 generalize V a0 a1 a2 a3 = n at *
 generalize a3 / 1152921504606846976 = d at *
 unfold L
 omega
theorem times_math (q : Int) (h0 : 0 ≤ q) (h1 : q ≤ 14) (x c : Int)
  (hx : x = q * 1503914060200516822 % 18446744073709551616 + q * 6346243789798364141 / 18446744073709551616 + 0) (hc : c = x / 18446744073709551616) :
  q * L = V (q * 6346243789798364141 % 18446744073709551616) (x % 18446744073709551616) (q * 1503914060200516822 / 18446744073709551616 + c) (q * 1152921504606846976) ∧ Wd (q * 6346243789798364141 % 18446744073709551616) ∧ Wd (x % 18446744073709551616) ∧ Wd (q * 1503914060200516822 / 18446744073709551616 + c) ∧ Wd (q * 1152921504606846976) := by
 unfold L V Wd
 omega
theorem step_math (p c d : Int) (hp : 0 ≤ p) (hc : Wd c) (hd : Wd d) (hs : p + c + d < 340282366920938463463374607431768211456) :
  ((p % 18446744073709551616 + c + 0) % 18446744073709551616 + d + 0) % 18446744073709551616 = (p + c + d) % 18446744073709551616 ∧ ((p / 18446744073709551616 + 0 + (p % 18446744073709551616 + c + 0) / 18446744073709551616) % 18446744073709551616 + 0 + ((p % 18446744073709551616 + c + 0) % 18446744073709551616 + d + 0) / 18446744073709551616) % 18446744073709551616 = (p + c + d) / 18446744073709551616 := by
 unfold Wd at *
 omega
theorem mul_le (a b : Int) (ha : Wd a) (hb : Wd b) : 0 ≤ a * b ∧ a * b ≤ 340282366920938463426481119284349108225 := by
 unfold Wd at *
 refine ⟨Int.mul_nonneg ha.1 hb.1, ?_⟩
 have := Int.mul_le_mul (show a ≤ 18446744073709551616 - 1 by omega) (show b ≤ 18446744073709551616 - 1 by omega) hb.1 (by omega)
 omega
theorem step_lt (a b c d : Int) (ha : Wd a) (hb : Wd b) (hc : Wd c) (hd : Wd d) : 0 ≤ a * b + c + d ∧ a * b + c + d < 340282366920938463463374607431768211456 := by
 have := mul_le a b ha hb
 unfold Wd at *
 omega
theorem round_math (x b0 b1 b2 b3 t0 t1 t2 t3 : Int) (hx : Wd x) (hb0 : Wd b0) (hb1 : Wd b1) (hb2 : Wd b2) (hb3 : Wd b3) (ht0 : Wd t0) (ht1 : Wd t1) (ht2 : Wd t2) (ht3 : Wd t3)
  (hB : V b0 b1 b2 b3 < L) (hT : V t0 t1 t2 t3 < 2 * L)
  (p0 p1 p2 p3 m q0 q1 q2 q3 : Int)
  (e0 : p0 = x * b0 + t0 + 0) (e1 : p1 = x * b1 + t1 + p0 / 18446744073709551616) (e2 : p2 = x * b2 + t2 + p1 / 18446744073709551616) (e3 : p3 = x * b3 + t3 + p2 / 18446744073709551616)
  (em : m = p0 % 18446744073709551616 * 15183074304973897243 % 18446744073709551616)
  (f0 : q0 = m * 6346243789798364141 + p0 % 18446744073709551616 + 0) (f1 : q1 = m * 1503914060200516822 + p1 % 18446744073709551616 + q0 / 18446744073709551616) (f2 : q2 = m * 0 + p2 % 18446744073709551616 + q1 / 18446744073709551616) (f3 : q3 = m * 1152921504606846976 + p3 % 18446744073709551616 + q2 / 18446744073709551616) :
  (Wd m ∧ Wd (q1 % 18446744073709551616) ∧ Wd (q2 % 18446744073709551616) ∧ Wd (q3 % 18446744073709551616) ∧ Wd (p3 / 18446744073709551616 + q3 / 18446744073709551616)) ∧ 18446744073709551616 * V (q1 % 18446744073709551616) (q2 % 18446744073709551616) (q3 % 18446744073709551616) (p3 / 18446744073709551616 + q3 / 18446744073709551616) = V t0 t1 t2 t3 + x * V b0 b1 b2 b3 + m * L := by
 have hm : Wd m := by unfold Wd; omega
 have z : q0 % 18446744073709551616 = 0 := by
  have k : q0 = p0 % 18446744073709551616 * (15183074304973897243 * 6346243789798364141 + 1) - 18446744073709551616 * (p0 % 18446744073709551616 * 15183074304973897243 / 18446744073709551616 * 6346243789798364141) := by
   rw [f0, em]
   have h1 := Int.emod_add_mul_ediv (p0 % 18446744073709551616 * 15183074304973897243) 18446744073709551616
   generalize p0 % 18446744073709551616 * 15183074304973897243 / 18446744073709551616 = u at *
   generalize p0 % 18446744073709551616 * 15183074304973897243 % 18446744073709551616 = v at *
   omega
  rw [k]
  generalize p0 % 18446744073709551616 * 15183074304973897243 / 18446744073709551616 * 6346243789798364141 = u
  omega
 have hsum : 18446744073709551616 * V (q1 % 18446744073709551616) (q2 % 18446744073709551616) (q3 % 18446744073709551616) (p3 / 18446744073709551616 + q3 / 18446744073709551616) = V t0 t1 t2 t3 + x * V b0 b1 b2 b3 + m * L := by
  have d : x * V b0 b1 b2 b3 = x * b0 + 18446744073709551616 * (x * b1) + 340282366920938463463374607431768211456 * (x * b2) + 6277101735386680763835789423207666416102355444464034512896 * (x * b3) := by unfold V; grind
  rw [d]
  unfold V L
  generalize x * b0 = y0 at *
  generalize x * b1 = y1 at *
  generalize x * b2 = y2 at *
  generalize x * b3 = y3 at *
  omega
 refine ⟨⟨hm, ?_, ?_, ?_, ?_⟩, hsum⟩
 ·unfold Wd; omega
 ·unfold Wd; omega
 ·unfold Wd; omega
 ·have hxB : x * V b0 b1 b2 b3 ≤ (18446744073709551616 - 1) * (L - 1) := by
   have hV0 := (V_bd b0 b1 b2 b3 hb0 hb1 hb2 hb3).1
   unfold Wd at hx
   exact Int.mul_le_mul (by omega) (by omega) hV0 (by omega)
  have hxB0 : 0 ≤ x * V b0 b1 b2 b3 := Int.mul_nonneg hx.1 (V_bd b0 b1 b2 b3 hb0 hb1 hb2 hb3).1
  have hT0 := (V_bd t0 t1 t2 t3 ht0 ht1 ht2 ht3).1
  have hq3 : 0 ≤ p3 / 18446744073709551616 + q3 / 18446744073709551616 := by
   have g0 := mul_le x b0 hx hb0
   have g1 := mul_le x b1 hx hb1
   have g2 := mul_le x b2 hx hb2
   have g3 := mul_le x b3 hx hb3
   unfold Wd at *
   generalize x * b0 = y0 at *
   generalize x * b1 = y1 at *
   generalize x * b2 = y2 at *
   generalize x * b3 = y3 at *
   omega
  generalize x * V b0 b1 b2 b3 = X at *
  generalize V t0 t1 t2 t3 = T at *
  unfold V L at *
  unfold Wd at *
  omega
end Go.Proofs.YtimjfndaleccaaaDoor.Sm
