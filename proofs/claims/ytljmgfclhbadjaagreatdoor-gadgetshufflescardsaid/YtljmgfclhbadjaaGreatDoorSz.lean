import Derived.Test.YtljmgfclhbadjaaGreatDoorTk
import Derived.Test.YtljmgfclhbadjaaGreatDoorProg
import Derived.WalkKit
import Derived.WalkSpells
import Derived.WalkLawsBesides
import Derived.Laws.BitsAllLaws
import Derived.Lib.Mul64
import Derived.Laws.Bits64b
import Derived.Laws.Externs
import Derived.Deep.RegionHeld3
import Derived.Deep.DeepCutAuto
import Derived.Deep.DeepMust
namespace Go.Proofs.YtljmgfclhbadjaaGreatDoor.Sm
-- B = 2^64, the prime is L
def V (a0 a1 a2 a3 : Int) : Int := a0 + 18446744073709551616 * a1 + 340282366920938463463374607431768211456 * a2 + 6277101735386680763835789423207666416102355444464034512896 * a3
def L : Int := 7237005577332262213973186563042994240857116359379907606001950938285454250989
def Wd (x : Int) : Prop := 0 ≤ x ∧ x < 18446744073709551616
def lim (i : Nat) (n : Int) : Int := match i with
 | 0 => n % 18446744073709551616
 | 1 => n / 18446744073709551616 % 18446744073709551616
 | 2 => n / 340282366920938463463374607431768211456 % 18446744073709551616
 | _ => n / 6277101735386680763835789423207666416102355444464034512896 % 18446744073709551616
theorem lim_wd (i : Nat) (n : Int) : Wd (lim i n) := by
 unfold lim Wd; split <;> omega
theorem lim_of (n d0 d1 d2 d3 k : Int) (h0 : Wd d0) (h1 : Wd d1) (h2 : Wd d2) (h3 : Wd d3) (hn : V d0 d1 d2 d3 + 115792089237316195423570985008687907853269984665640564039457584007913129639936 * k = n) :
  d0 = lim 0 n ∧ d1 = lim 1 n ∧ d2 = lim 2 n ∧ d3 = lim 3 n := by
 unfold V at hn; unfold Wd at *
 simp only [lim]
 have e0 : n / 18446744073709551616 = d1 + 18446744073709551616 * d2 + 340282366920938463463374607431768211456 * d3 + 6277101735386680763835789423207666416102355444464034512896 * k := by omega
 have e1 : n / 340282366920938463463374607431768211456 = d2 + 18446744073709551616 * d3 + 340282366920938463463374607431768211456 * k := by omega
 have e2 : n / 6277101735386680763835789423207666416102355444464034512896 = d3 + 18446744073709551616 * k := by omega
 rw [e0, e1, e2]
 refine ⟨by omega, by omega, by omega, by omega⟩
theorem V_bd (a0 a1 a2 a3 : Int) (h0 : Wd a0) (h1 : Wd a1) (h2 : Wd a2) (h3 : Wd a3) : 0 ≤ V a0 a1 a2 a3 ∧ V a0 a1 a2 a3 < 115792089237316195423570985008687907853269984665640564039457584007913129639936 := by
 unfold V; unfold Wd at *; omega
theorem V_lim (n : Int) (h0 : 0 ≤ n) (h1 : n < 115792089237316195423570985008687907853269984665640564039457584007913129639936) : V (lim 0 n) (lim 1 n) (lim 2 n) (lim 3 n) = n := by
 unfold V; simp only [lim]
 have f1 : n / 340282366920938463463374607431768211456 = n / 18446744073709551616 / 18446744073709551616 := by omega
 have f2 : n / 6277101735386680763835789423207666416102355444464034512896 = n / 340282366920938463463374607431768211456 / 18446744073709551616 := by omega
 generalize hx1 : n / 18446744073709551616 = x1 at *
 generalize hx2 : n / 340282366920938463463374607431768211456 = x2 at *
 generalize hx3 : n / 6277101735386680763835789423207666416102355444464034512896 = x3 at *
 omega
theorem V_inj {a0 a1 a2 a3 n : Int} (h0 : Wd a0) (h1 : Wd a1) (h2 : Wd a2) (h3 : Wd a3) (hn : V a0 a1 a2 a3 = n) :
  a0 = lim 0 n ∧ a1 = lim 1 n ∧ a2 = lim 2 n ∧ a3 = lim 3 n := lim_of n a0 a1 a2 a3 0 h0 h1 h2 h3 (by omega)
theorem sum_math (a0 a1 a2 a3 b0 b1 b2 b3 c1 c2 c3 : Int)
  (e1 : c1 = (a0 + b0 + 0) / 18446744073709551616) (e2 : c2 = (a1 + b1 + c1) / 18446744073709551616) (e3 : c3 = (a2 + b2 + c2) / 18446744073709551616) :
  (a0 + b0 + 0) % 18446744073709551616 = lim 0 (V a0 a1 a2 a3 + V b0 b1 b2 b3) ∧ (a1 + b1 + c1) % 18446744073709551616 = lim 1 (V a0 a1 a2 a3 + V b0 b1 b2 b3) ∧ (a2 + b2 + c2) % 18446744073709551616 = lim 2 (V a0 a1 a2 a3 + V b0 b1 b2 b3) ∧ (a3 + b3 + c3) % 18446744073709551616 = lim 3 (V a0 a1 a2 a3 + V b0 b1 b2 b3) := by
 refine lim_of _ _ _ _ _ ((a3 + b3 + c3) / 18446744073709551616) ?_ ?_ ?_ ?_ ?_
 ·unfold Wd; omega
 ·unfold Wd; omega
 ·unfold Wd; omega
 ·unfold Wd; omega
 ·unfold V; omega
theorem sub_math (a0 a1 a2 a3 b0 b1 b2 b3 c1 c2 c3 : Int)
  (e1 : c1 = -((a0 - b0 - 0) / 18446744073709551616)) (e2 : c2 = -((a1 - b1 - c1) / 18446744073709551616)) (e3 : c3 = -((a2 - b2 - c2) / 18446744073709551616)) :
  ((a0 - b0 - 0) % 18446744073709551616 = lim 0 (V a0 a1 a2 a3 - V b0 b1 b2 b3) ∧ (a1 - b1 - c1) % 18446744073709551616 = lim 1 (V a0 a1 a2 a3 - V b0 b1 b2 b3) ∧ (a2 - b2 - c2) % 18446744073709551616 = lim 2 (V a0 a1 a2 a3 - V b0 b1 b2 b3) ∧ (a3 - b3 - c3) % 18446744073709551616 = lim 3 (V a0 a1 a2 a3 - V b0 b1 b2 b3)) ∧ -((a3 - b3 - c3) / 18446744073709551616) = -((V a0 a1 a2 a3 - V b0 b1 b2 b3) / 115792089237316195423570985008687907853269984665640564039457584007913129639936) := by
 constructor
 ·refine lim_of _ _ _ _ _ ((a3 - b3 - c3) / 18446744073709551616) ?_ ?_ ?_ ?_ ?_
  ·unfold Wd; omega
  ·unfold Wd; omega
  ·unfold Wd; omega
  ·unfold Wd; omega
  ·unfold V; omega
 ·unfold V; omega
theorem borrow (x y c : Int) (hx : Wd x) (hy : Wd y) (h0 : 0 ≤ c) (h1 : c ≤ 1) : 0 ≤ -((x - y - c) / 18446744073709551616) ∧ -((x - y - c) / 18446744073709551616) ≤ 1 := by
 unfold Wd at *; omega
theorem least_math (a0 a1 a2 a3 : Int) (h0 : Wd a0) (h1 : Wd a1) (h2 : Wd a2) (h3 : Wd a3) (q : Int) (hq : q = a3 / 1152921504606846976 - (a3 / 1152921504606846976 + 15) / 16) :
  0 ≤ q ∧ q ≤ 14 ∧ 0 ≤ V a0 a1 a2 a3 - q * L ∧ V a0 a1 a2 a3 - q * L < 2 * L := by
 unfold Wd at *
 have hd : 0 ≤ a3 / 1152921504606846976 ∧ a3 / 1152921504606846976 ≤ 15 := by omega
 have hV : a3 / 1152921504606846976 * 7237005577332262213973186563042994240829374041602535252466099000494570602496 ≤ V a0 a1 a2 a3 ∧ V a0 a1 a2 a3 < (a3 / 1152921504606846976 + 1) * 7237005577332262213973186563042994240829374041602535252466099000494570602496 := by unfold V; omega
 generalize V a0 a1 a2 a3 = n at *
 generalize a3 / 1152921504606846976 = d at *
 unfold L
 omega
theorem times_math (q : Int) (h0 : 0 ≤ q) (h1 : q ≤ 14) (x c : Int)
  (hx : x = q * 1503914060200516822 % 18446744073709551616 + q * 6346243789798364141 / 18446744073709551616 + 0) (hc : c = x / 18446744073709551616) :
  q * L = V (q * 6346243789798364141 % 18446744073709551616) (x % 18446744073709551616) (q * 1503914060200516822 / 18446744073709551616 + c) (q * 1152921504606846976) ∧ Wd (q * 6346243789798364141 % 18446744073709551616) ∧ Wd (x % 18446744073709551616) ∧ Wd (q * 1503914060200516822 / 18446744073709551616 + c) ∧ Wd (q * 1152921504606846976) := by
 unfold L V Wd
 omega
theorem step_math (p c d : Int) (hp : 0 ≤ p) (hc : Wd c) (hd : Wd d) (hs : p + c + d < 340282366920938463463374607431768211456) :
  ((p % 18446744073709551616 + c + 0) % 18446744073709551616 + d + 0) % 18446744073709551616 = (p + c + d) % 18446744073709551616 ∧ ((p / 18446744073709551616 + 0 + (p % 18446744073709551616 + c + 0) / 18446744073709551616) % 18446744073709551616 + 0 + ((p % 18446744073709551616 + c + 0) % 18446744073709551616 + d + 0) / 18446744073709551616) % 18446744073709551616 = (p + c + d) / 18446744073709551616 := by
 unfold Wd at *
 omega
theorem mul_le (a b : Int) (ha : Wd a) (hb : Wd b) : 0 ≤ a * b ∧ a * b ≤ 340282366920938463426481119284349108225 := by
 unfold Wd at *
 refine ⟨Int.mul_nonneg ha.1 hb.1, ?_⟩
 have := Int.mul_le_mul (show a ≤ 18446744073709551616 - 1 by omega) (show b ≤ 18446744073709551616 - 1 by omega) hb.1 (by omega)
 omega
theorem step_lt (a b c d : Int) (ha : Wd a) (hb : Wd b) (hc : Wd c) (hd : Wd d) : 0 ≤ a * b + c + d ∧ a * b + c + d < 340282366920938463463374607431768211456 := by
 have := mul_le a b ha hb
 unfold Wd at *
 omega
theorem round_math (x b0 b1 b2 b3 t0 t1 t2 t3 : Int) (hx : Wd x) (hb0 : Wd b0) (hb1 : Wd b1) (hb2 : Wd b2) (hb3 : Wd b3) (ht0 : Wd t0) (ht1 : Wd t1) (ht2 : Wd t2) (ht3 : Wd t3)
  (hB : V b0 b1 b2 b3 < L) (hT : V t0 t1 t2 t3 < 2 * L)
  (p0 p1 p2 p3 m q0 q1 q2 q3 : Int)
  (e0 : p0 = x * b0 + t0 + 0) (e1 : p1 = x * b1 + t1 + p0 / 18446744073709551616) (e2 : p2 = x * b2 + t2 + p1 / 18446744073709551616) (e3 : p3 = x * b3 + t3 + p2 / 18446744073709551616)
  (em : m = p0 % 18446744073709551616 * 15183074304973897243 % 18446744073709551616)
  (f0 : q0 = m * 6346243789798364141 + p0 % 18446744073709551616 + 0) (f1 : q1 = m * 1503914060200516822 + p1 % 18446744073709551616 + q0 / 18446744073709551616) (f2 : q2 = m * 0 + p2 % 18446744073709551616 + q1 / 18446744073709551616) (f3 : q3 = m * 1152921504606846976 + p3 % 18446744073709551616 + q2 / 18446744073709551616) :
  (Wd m ∧ Wd (q1 % 18446744073709551616) ∧ Wd (q2 % 18446744073709551616) ∧ Wd (q3 % 18446744073709551616) ∧ Wd (p3 / 18446744073709551616 + q3 / 18446744073709551616)) ∧ 18446744073709551616 * V (q1 % 18446744073709551616) (q2 % 18446744073709551616) (q3 % 18446744073709551616) (p3 / 18446744073709551616 + q3 / 18446744073709551616) = V t0 t1 t2 t3 + x * V b0 b1 b2 b3 + m * L := by
 have hm : Wd m := by unfold Wd; omega
 have z : q0 % 18446744073709551616 = 0 := by
  have k : q0 = p0 % 18446744073709551616 * (15183074304973897243 * 6346243789798364141 + 1) - 18446744073709551616 * (p0 % 18446744073709551616 * 15183074304973897243 / 18446744073709551616 * 6346243789798364141) := by
   rw [f0, em]
   have h1 := Int.emod_add_mul_ediv (p0 % 18446744073709551616 * 15183074304973897243) 18446744073709551616
   generalize p0 % 18446744073709551616 * 15183074304973897243 / 18446744073709551616 = u at *
   generalize p0 % 18446744073709551616 * 15183074304973897243 % 18446744073709551616 = v at *
   omega
  rw [k]
  generalize p0 % 18446744073709551616 * 15183074304973897243 / 18446744073709551616 * 6346243789798364141 = u
  omega
 have hsum : 18446744073709551616 * V (q1 % 18446744073709551616) (q2 % 18446744073709551616) (q3 % 18446744073709551616) (p3 / 18446744073709551616 + q3 / 18446744073709551616) = V t0 t1 t2 t3 + x * V b0 b1 b2 b3 + m * L := by
  have d : x * V b0 b1 b2 b3 = x * b0 + 18446744073709551616 * (x * b1) + 340282366920938463463374607431768211456 * (x * b2) + 6277101735386680763835789423207666416102355444464034512896 * (x * b3) := by unfold V; grind
  rw [d]
  unfold V L
  generalize x * b0 = y0 at *
  generalize x * b1 = y1 at *
  generalize x * b2 = y2 at *
  generalize x * b3 = y3 at *
  omega
 refine ⟨⟨hm, ?_, ?_, ?_, ?_⟩, hsum⟩
 ·unfold Wd; omega
 ·unfold Wd; omega
 ·unfold Wd; omega
 ·have hxB : x * V b0 b1 b2 b3 ≤ (18446744073709551616 - 1) * (L - 1) := by
   have hV0 := (V_bd b0 b1 b2 b3 hb0 hb1 hb2 hb3).1
   unfold Wd at hx
   exact Int.mul_le_mul (by omega) (by omega) hV0 (by omega)
  have hxB0 : 0 ≤ x * V b0 b1 b2 b3 := Int.mul_nonneg hx.1 (V_bd b0 b1 b2 b3 hb0 hb1 hb2 hb3).1
  have hT0 := (V_bd t0 t1 t2 t3 ht0 ht1 ht2 ht3).1
  have hq3 : 0 ≤ p3 / 18446744073709551616 + q3 / 18446744073709551616 := by
   have g0 := mul_le x b0 hx hb0
   have g1 := mul_le x b1 hx hb1
   have g2 := mul_le x b2 hx hb2
   have g3 := mul_le x b3 hx hb3
   unfold Wd at *
   generalize x * b0 = y0 at *
   generalize x * b1 = y1 at *
   generalize x * b2 = y2 at *
   generalize x * b3 = y3 at *
   omega
  generalize x * V b0 b1 b2 b3 = X at *
  generalize V t0 t1 t2 t3 = T at *
  unfold V L at *
  unfold Wd at *
  omega
end Go.Proofs.YtljmgfclhbadjaaGreatDoor.Sm
namespace Go.Proofs.YtljmgfclhbadjaaGreatDoor
set_option maxHeartbeats 1000000
open Go.RowKit
theorem Hn {p : Prop} (h : p) : Hid p := h
namespace M64
theorem maskN (a : Nat) (ha : a < 18446744073709551616) : bits .and .u64 (a : Int) 4294967295 = ((a % 4294967296 : Nat) : Int) := by
 have h := bits_and_u64_nat a 4294967295 ha (by omega)
 have e : a &&& 4294967295 = a % 4294967296 := Nat.and_two_pow_sub_one_eq_mod a 32
 rw [e] at h
 exact h
theorem divN (a : Nat) : (a : Int) / 4294967296 = ((a / 4294967296 : Nat) : Int) := by omega
theorem mulN (a b : Nat) : (a : Int) * (b : Int) = ((a * b : Nat) : Int) := (Int.natCast_mul a b).symm
theorem addN (a b : Nat) : (a : Int) + (b : Int) = ((a + b : Nat) : Int) := (Int.natCast_add a b).symm
theorem wrapN (a : Nat) (ha : a < 18446744073709551616) : IntKind.u64.wrap (a : Int) = (a : Int) := by rw [IntKind.wrap_u64]; omega
theorem wrapM (a : Nat) : IntKind.u64.wrap (a : Int) = ((a % 18446744073709551616 : Nat) : Int) := by rw [IntKind.wrap_u64]; omega
end M64
theorem mul64_nat (x y : Nat) (hx : x < 18446744073709551616) (hy : y < 18446744073709551616) (w : World) :
  Calls Tryz.prog 222 #[.int .u64 x, .int .u64 y] w fun e w' => e = .returned (.tuple #[.int .u64 ((x * y / 18446744073709551616 : Nat) : Int), .int .u64 ((x * y % 18446744073709551616 : Nat) : Int)]) ∧ w' = w := by
 obtain ⟨bd, bt, bw, hhi⟩ := Lib.mul64_hi x y hx hy
 have ba := Lib.half_mul_le (a := x / 4294967296) (b := y / 4294967296) (by omega) (by omega)
 have bb := Lib.half_mul_le (a := x / 4294967296) (b := y % 4294967296) (by omega) (by omega)
 have bc := Lib.half_mul_le (a := x % 4294967296) (b := y / 4294967296) (by omega) (by omega)
 have ba' : x / 4294967296 * (y / 4294967296) < 18446744073709551616 := by omega
 have bb' : x / 4294967296 * (y % 4294967296) < 18446744073709551616 := by omega
 have bc' : x % 4294967296 * (y / 4294967296) < 18446744073709551616 := by omega
 have bh1 : x / 4294967296 * (y / 4294967296) + (x / 4294967296 * (y % 4294967296) + x % 4294967296 * (y % 4294967296) / 4294967296) / 4294967296 < 18446744073709551616 := by omega
 have bh : x / 4294967296 * (y / 4294967296) + (x / 4294967296 * (y % 4294967296) + x % 4294967296 * (y % 4294967296) / 4294967296) / 4294967296 + ((x / 4294967296 * (y % 4294967296) + x % 4294967296 * (y % 4294967296) / 4294967296) % 4294967296 + x % 4294967296 * (y / 4294967296)) / 4294967296 < 18446744073709551616 := by omega
 go_enter Tryz.func222, Tryz.ntmps222
 go_wp2
 simp only [M64.maskN x hx, M64.maskN y hy, M64.divN, M64.mulN, M64.addN, M64.wrapN _ bd, M64.wrapN _ bb', M64.wrapN _ bt, M64.maskN _ bt, M64.wrapN _ bc', M64.wrapN _ bw, M64.wrapN _ ba', M64.wrapN _ bh1, M64.wrapN _ bh, M64.wrapM (x * y)]
 rw [hhi]
 go_ret2
 exact ⟨rfl, rfl⟩
theorem mul64_any (x y : Int) (hx : Sm.Wd x) (hy : Sm.Wd y) (w : World) :
  Calls Tryz.prog 222 #[.int .u64 x, .int .u64 y] w fun e w' => e = .returned (.tuple #[.int .u64 (x * y / 18446744073709551616), .int .u64 (x * y % 18446744073709551616)]) ∧ w' = w := by
 obtain ⟨hx0, hx1⟩ := hx
 obtain ⟨hy0, hy1⟩ := hy
 obtain ⟨X, rfl⟩ := Int.eq_ofNat_of_zero_le hx0
 obtain ⟨Y, rfl⟩ := Int.eq_ofNat_of_zero_le hy0
 have := mul64_nat X Y (by omega) (by omega) w
 simp only [Int.natCast_ediv, Int.natCast_emod, Int.natCast_mul] at this
 exact this
theorem add64_run (x y c : Int) (hx : 0 ≤ x) (hy : 0 ≤ y) (hc0 : 0 ≤ c) (hc : c ≤ 1) (w : World) :
  (callFunc 223 #[.int .u64 x, .int .u64 y, .int .u64 c]).run Tryz.prog w =
   .ok (.value (.tuple #[.int .u64 ((x + y + c) % 18446744073709551616), .int .u64 ((x + y + c) / 18446744073709551616)])) w := by
 rw [run_callFunc_extern Tryz.func223 (by kernel_rfl) (by kernel_rfl) (by kernel_rfl) (e := add64Entry) (by kernel_rfl), run_add64 x y c hx hy hc0 hc]
 rfl
def sub64Entry : Array Value → Sem Value := (Extern.MathBitsCarry.rows[1]!).2
theorem run_sub64 {P : Program} (x y c : Int) (hx : Sm.Wd x) (hy : Sm.Wd y) (hc0 : 0 ≤ c) (hc : c ≤ 1) (w : World) :
  (sub64Entry #[.int .u64 x, .int .u64 y, .int .u64 c]).run P w =
   .ok (.tuple #[.int .u64 ((x - y - c) % 18446744073709551616), .int .u64 (-((x - y - c) / 18446744073709551616))]) w := by
 have key : ∀ k : Nat, k ≤ 1 → (sub64Entry #[.int .u64 x, .int .u64 y, .int .u64 (k : Int)]).run P w =
   .ok (Extern.MathBitsCarry.pair ((x.toNat + Extern.MathBitsCarry.m64 - y.toNat - k) % Extern.MathBitsCarry.m64) (if x.toNat < y.toNat + k then 1 else 0)) w := by
  intro k hk
  have : k = 0 ∨ k = 1 := by omega
  rcases this with rfl | rfl <;> rfl
 obtain ⟨k, rfl⟩ := Int.eq_ofNat_of_zero_le hc0
 rw [key k (by omega)]
 unfold Sm.Wd at *
 obtain ⟨X, rfl⟩ := Int.eq_ofNat_of_zero_le hx.1
 obtain ⟨Y, rfl⟩ := Int.eq_ofNat_of_zero_le hy.1
 simp only [Extern.MathBitsCarry.pair, Extern.MathBitsCarry.m64, Int.toNat_natCast]
 have e1 : ((((X + 2 ^ 64 - Y - k) % 2 ^ 64 : Nat)) : Int) = ((X : Int) - Y - k) % 18446744073709551616 := by omega
 have e2 : (((if X < Y + k then 1 else 0 : Nat)) : Int) = -(((X : Int) - Y - k) / 18446744073709551616) := by split <;> omega
 rw [← e1, ← e2]
 rfl
theorem sub64_run (x y c : Int) (hx : Sm.Wd x) (hy : Sm.Wd y) (hc0 : 0 ≤ c) (hc : c ≤ 1) (w : World) :
  (callFunc 224 #[.int .u64 x, .int .u64 y, .int .u64 c]).run Tryz.prog w =
   .ok (.value (.tuple #[.int .u64 ((x - y - c) % 18446744073709551616), .int .u64 (-((x - y - c) / 18446744073709551616))])) w := by
 rw [run_callFunc_extern Tryz.func224 (by kernel_rfl) (by kernel_rfl) (by kernel_rfl) (e := sub64Entry) (by kernel_rfl), run_sub64 x y c hx hy hc0 hc]
 rfl
def lt (n : Int) : Value := .tuple #[.int .u64 (Sm.lim 0 n), .int .u64 (Sm.lim 1 n), .int .u64 (Sm.lim 2 n), .int .u64 (Sm.lim 3 n)]
def Tb (w : World) : Prop :=
 w.cell? ⟨1, 0, none⟩ = some (.int .u64 6346243789798364141) ∧ w.cell? ⟨1, 1, none⟩ = some (.int .u64 1503914060200516822) ∧ w.cell? ⟨1, 2, none⟩ = some (.int .u64 0) ∧ w.cell? ⟨1, 3, none⟩ = some (.int .u64 1152921504606846976) ∧
 w.cell? ⟨1, 4, none⟩ = some (.int .u64 15486807595281847581) ∧ w.cell? ⟨1, 5, none⟩ = some (.int .u64 14334777244411350896) ∧ w.cell? ⟨1, 6, none⟩ = some (.int .u64 18446744073709551614) ∧ w.cell? ⟨1, 7, none⟩ = some (.int .u64 1152921504606846975) ∧
 w.cell? ⟨1, 8, none⟩ = some (.int .u64 11819153939886771969) ∧ w.cell? ⟨1, 9, none⟩ = some (.int .u64 14991950615390032711) ∧ w.cell? ⟨1, 10, none⟩ = some (.int .u64 14910419812499177061) ∧ w.cell? ⟨1, 11, none⟩ = some (.int .u64 259310039853996605)
theorem cell_keep {w w' : World} {b o : Nat} {v : Value} (h : w.cell? ⟨b, o, none⟩ = some v) (hb : Below w.heap.size w w') : w'.cell? ⟨b, o, none⟩ = some v :=
 (hb.cell (p := ⟨b, o, none⟩) (World.block_lt_of_cell? w ⟨b, o, none⟩ h)).trans h
theorem Tb.keep {w w' : World} (h : Tb w) (hb : Below w.heap.size w w') : Tb w' := by
 obtain ⟨h0, h1, h2, h3, h4, h5, h6, h7, h8, h9, h10, h11⟩ := h
 exact ⟨cell_keep h0 hb, cell_keep h1 hb, cell_keep h2 hb, cell_keep h3 hb, cell_keep h4 hb, cell_keep h5 hb, cell_keep h6 hb, cell_keep h7 hb, cell_keep h8 hb, cell_keep h9 hb, cell_keep h10 hb, cell_keep h11 hb⟩
theorem sum_any (a0 a1 a2 a3 b0 b1 b2 b3 : Int) (w : World) (h0 : Sm.Wd a0) (h1 : Sm.Wd a1) (h2 : Sm.Wd a2) (h3 : Sm.Wd a3) (g0 : Sm.Wd b0) (g1 : Sm.Wd b1) (g2 : Sm.Wd b2) (g3 : Sm.Wd b3) :
  Calls Tryz.prog 186 #[.int .u64 a0, .int .u64 a1, .int .u64 a2, .int .u64 a3, .int .u64 b0, .int .u64 b1, .int .u64 b2, .int .u64 b3] w fun e w' => e = .returned (lt (Sm.V a0 a1 a2 a3 + Sm.V b0 b1 b2 b3)) ∧ w' = w := by
 obtain ⟨m0, m1, m2, m3⟩ := Sm.sum_math a0 a1 a2 a3 b0 b1 b2 b3 _ _ _ rfl rfl rfl
 unfold Sm.Wd at *
 have A0 := add64_run a0 b0 0 (by omega) (by omega) (by omega) (by omega)
 have A1 := add64_run a1 b1 ((a0 + b0 + 0) / 18446744073709551616) (by omega) (by omega) (by omega) (by omega)
 have A2 := add64_run a2 b2 ((a1 + b1 + (a0 + b0 + 0) / 18446744073709551616) / 18446744073709551616) (by omega) (by omega) (by omega) (by omega)
 have A3 := add64_run a3 b3 ((a2 + b2 + (a1 + b1 + (a0 + b0 + 0) / 18446744073709551616) / 18446744073709551616) / 18446744073709551616) (by omega) (by omega) (by omega) (by omega)
 rw [m0] at A0
 rw [m1] at A1
 rw [m2] at A2
 rw [m3] at A3
 unfold lt
 clear m0 m1 m2 m3 h0 h1 h2 h3 g0 g1 g2 g3
 generalize Sm.V a0 a1 a2 a3 + Sm.V b0 b1 b2 b3 = n at *
 generalize (a3 + b3 + (a2 + b2 + (a1 + b1 + (a0 + b0 + 0) / 18446744073709551616) / 18446744073709551616) / 18446744073709551616) / 18446744073709551616 = c4 at *
 generalize (a2 + b2 + (a1 + b1 + (a0 + b0 + 0) / 18446744073709551616) / 18446744073709551616) / 18446744073709551616 = c3 at *
 generalize (a1 + b1 + (a0 + b0 + 0) / 18446744073709551616) / 18446744073709551616 = c2 at *
 generalize (a0 + b0 + 0) / 18446744073709551616 = c1 at *
 generalize Sm.lim 0 n = r0 at *
 generalize Sm.lim 1 n = r1 at *
 generalize Sm.lim 2 n = r2 at *
 generalize Sm.lim 3 n = r3 at *
 go_enter Tryz.func186, Tryz.ntmps186
 go_wp2_with fail
 exact bodyPost_ret (v := .tuple #[.int .u64 r0, .int .u64 r1, .int .u64 r2, .int .u64 r3]) (by simp [results, Tryz.results186, go_sem]) rfl ⟨rfl, rfl⟩
theorem step_any (a b c d : Int) (w : World) (ha : Sm.Wd a) (hb : Sm.Wd b) (hc : Sm.Wd c) (hd : Sm.Wd d) :
  Calls Tryz.prog 232 #[.int .u64 a, .int .u64 b, .int .u64 c, .int .u64 d] w fun e w' => e = .returned (.tuple #[.int .u64 ((a * b + c + d) / 18446744073709551616), .int .u64 ((a * b + c + d) % 18446744073709551616)]) ∧ w' = w := by
 have call := mul64_any a b ha hb
 have hq := Sm.mul_le a b ha hb
 have hs := Sm.step_lt a b c d ha hb hc hd
 generalize a * b = p at *
 obtain ⟨m1, m2⟩ := Sm.step_math p c d hq.1 hc hd hs.2
 unfold Sm.Wd at *
 have A1 := add64_run (p % 18446744073709551616) c 0 (by omega) (by omega) (by omega) (by omega)
 have A2 := add64_run (p / 18446744073709551616) 0 ((p % 18446744073709551616 + c + 0) / 18446744073709551616) (by omega) (by omega) (by omega) (by omega)
 have A3 := add64_run ((p % 18446744073709551616 + c + 0) % 18446744073709551616) d 0 (by omega) (by omega) (by omega) (by omega)
 have A4 := add64_run ((p / 18446744073709551616 + 0 + (p % 18446744073709551616 + c + 0) / 18446744073709551616) % 18446744073709551616) 0 (((p % 18446744073709551616 + c + 0) % 18446744073709551616 + d + 0) / 18446744073709551616) (by omega) (by omega) (by omega) (by omega)
 rw [m1] at A3
 rw [m2] at A4
 clear m1 m2 hq hs ha hb hc hd
 generalize (p + c + d) / 18446744073709551616 = hi at *
 generalize (p + c + d) % 18446744073709551616 = lo at *
 generalize (p / 18446744073709551616 + 0 + (p % 18446744073709551616 + c + 0) / 18446744073709551616) % 18446744073709551616 = x1 at *
 generalize ((p % 18446744073709551616 + c + 0) % 18446744073709551616 + d + 0) / 18446744073709551616 = x2 at *
 generalize (p % 18446744073709551616 + c + 0) % 18446744073709551616 = x3 at *
 generalize (p % 18446744073709551616 + c + 0) / 18446744073709551616 = x4 at *
 generalize p / 18446744073709551616 = x5 at *
 generalize p % 18446744073709551616 = x6 at *
 have CALL := Hn call
 clear call
 go_enter Tryz.func232, Tryz.ntmps232
 go_wp2_with fail
 refine (CALL.out _).mono ?_
 rintro e w' ⟨rfl, rfl⟩
 clear CALL
 go_wp2_with fail
 exact bodyPost_ret (v := .tuple #[.int .u64 hi, .int .u64 lo]) (by simp [results, Tryz.results232, go_sem]) rfl ⟨rfl, rfl⟩
end Go.Proofs.YtljmgfclhbadjaaGreatDoor
namespace Go.Proofs.YtljmgfclhbadjaaGreatDoor
open Go.RowKit
theorem xmask1 (r a : Int) (hr : Sm.Wd r) (ha : Sm.Wd a) : bits .xor .u64 r (bits .and .u64 18446744073709551615 (bits .xor .u64 r a)) = a := by
 obtain ⟨R, rfl⟩ := Int.eq_ofNat_of_zero_le hr.1
 obtain ⟨A, rfl⟩ := Int.eq_ofNat_of_zero_le ha.1
 have hR : R < 18446744073709551616 := by have := hr.2; omega
 have hA : A < 18446744073709551616 := by have := ha.2; omega
 have hx : R ^^^ A < 18446744073709551616 := Nat.xor_lt_two_pow (n := 64) hR hA
 rw [u64_xor_nat R A hR hA]
 have e1 := u64_and_nat 18446744073709551615 (R ^^^ A) (by omega) hx
 have e2 : 18446744073709551615 &&& (R ^^^ A) = R ^^^ A := by
  rw [Nat.and_comm]
  exact (Nat.and_two_pow_sub_one_eq_mod _ 64).trans (Nat.mod_eq_of_lt hx)
 rw [e2] at e1
 have e3 : ((18446744073709551615 : Nat) : Int) = 18446744073709551615 := rfl
 rw [e3] at e1
 rw [e1, u64_xor_nat R _ hR hx, ← Nat.xor_assoc, Nat.xor_self, Nat.zero_xor]
theorem xmask0 (r a : Int) (hr : Sm.Wd r) (ha : Sm.Wd a) : bits .xor .u64 r (bits .and .u64 0 (bits .xor .u64 r a)) = r := by
 obtain ⟨R, rfl⟩ := Int.eq_ofNat_of_zero_le hr.1
 obtain ⟨A, rfl⟩ := Int.eq_ofNat_of_zero_le ha.1
 have hR : R < 18446744073709551616 := by have := hr.2; omega
 have hA : A < 18446744073709551616 := by have := ha.2; omega
 have hx : R ^^^ A < 18446744073709551616 := Nat.xor_lt_two_pow (n := 64) hR hA
 rw [u64_xor_nat R A hR hA]
 have e1 := u64_and_nat 0 (R ^^^ A) (by omega) hx
 rw [Nat.zero_and] at e1
 have e3 : ((0 : Nat) : Int) = 0 := rfl
 rw [e3] at e1
 have e4 := u64_xor_nat R 0 hR (by omega)
 rw [Nat.xor_zero, e3] at e4
 rw [e1, e4]
theorem wm1 : IntKind.u64.wrap (-1) = 18446744073709551615 := by rw [IntKind.wrap_u64]; rfl
set_option maxHeartbeats 1000000 in
theorem lessOnce_any (a0 a1 a2 a3 : Int) (w : World) (hT : Tb w) (h0 : Sm.Wd a0) (h1 : Sm.Wd a1) (h2 : Sm.Wd a2) (h3 : Sm.Wd a3) (hn : Sm.V a0 a1 a2 a3 < 2 * Sm.L) :
  Calls Tryz.prog 187 #[.int .u64 a0, .int .u64 a1, .int .u64 a2, .int .u64 a3] w fun e w' => e = .returned (lt (Sm.V a0 a1 a2 a3 % Sm.L)) ∧ w' = w := by
 obtain ⟨t0, t1, t2, t3, -⟩ := hT
 have hVb := Sm.V_bd a0 a1 a2 a3 h0 h1 h2 h3
 have hVi := Sm.V_inj h0 h1 h2 h3 rfl
 obtain ⟨⟨m0, m1, m2, m3⟩, mu⟩ := Sm.sub_math a0 a1 a2 a3 6346243789798364141 1503914060200516822 0 1152921504606846976 _ _ _ rfl rfl rfl
 have hL : Sm.V 6346243789798364141 1503914060200516822 0 1152921504606846976 = Sm.L := rfl
 rw [hL] at m0 m1 m2 m3 mu
 have w0 : Sm.Wd 6346243789798364141 := by unfold Sm.Wd; omega
 have w1 : Sm.Wd 1503914060200516822 := by unfold Sm.Wd; omega
 have w2 : Sm.Wd 0 := by unfold Sm.Wd; omega
 have w3 : Sm.Wd 1152921504606846976 := by unfold Sm.Wd; omega
 have B0 := Sm.borrow a0 6346243789798364141 0 h0 w0 (by omega) (by omega)
 have A0 := sub64_run a0 6346243789798364141 0 h0 w0 (by omega) (by omega)
 have B1 := Sm.borrow a1 1503914060200516822 _ h1 w1 B0.1 B0.2
 have A1 := sub64_run a1 1503914060200516822 _ h1 w1 B0.1 B0.2
 have B2 := Sm.borrow a2 0 _ h2 w2 B1.1 B1.2
 have A2 := sub64_run a2 0 _ h2 w2 B1.1 B1.2
 have A3 := sub64_run a3 1152921504606846976 _ h3 w3 B2.1 B2.2
 rw [m0] at A0
 rw [m1] at A1
 rw [m2] at A2
 rw [m3, mu] at A3
 clear m0 m1 m2 m3 mu hL w0 w1 w2 w3 B0 B1 B2
 have l0 := Sm.lim_wd 0 (Sm.V a0 a1 a2 a3 - Sm.L)
 have l1 := Sm.lim_wd 1 (Sm.V a0 a1 a2 a3 - Sm.L)
 have l2 := Sm.lim_wd 2 (Sm.V a0 a1 a2 a3 - Sm.L)
 have l3 := Sm.lim_wd 3 (Sm.V a0 a1 a2 a3 - Sm.L)
 by_cases hc : Sm.V a0 a1 a2 a3 < Sm.L
 ·have eu : -((Sm.V a0 a1 a2 a3 - Sm.L) / 115792089237316195423570985008687907853269984665640564039457584007913129639936) = 1 := by unfold Sm.L at *; omega
  rw [eu] at A3
  have em : Sm.V a0 a1 a2 a3 % Sm.L = Sm.V a0 a1 a2 a3 := Int.emod_eq_of_lt hVb.1 hc
  rw [em]
  unfold lt
  rw [← hVi.1, ← hVi.2.1, ← hVi.2.2.1, ← hVi.2.2.2]
  have x0 := xmask1 _ _ l0 h0
  have x1 := xmask1 _ _ l1 h1
  have x2 := xmask1 _ _ l2 h2
  have x3 := xmask1 _ _ l3 h3
  clear eu em hVb hVi hn hc l0 l1 l2 l3 h0 h1 h2 h3
  generalize Sm.V a0 a1 a2 a3 - Sm.L = n at *
  generalize -((a2 - 0 - -((a1 - 1503914060200516822 - -((a0 - 6346243789798364141 - 0) / 18446744073709551616)) / 18446744073709551616)) / 18446744073709551616) = c3 at *
  generalize -((a1 - 1503914060200516822 - -((a0 - 6346243789798364141 - 0) / 18446744073709551616)) / 18446744073709551616) = c2 at *
  generalize -((a0 - 6346243789798364141 - 0) / 18446744073709551616) = c1 at *
  generalize Sm.lim 0 n = r0 at *
  generalize Sm.lim 1 n = r1 at *
  generalize Sm.lim 2 n = r2 at *
  generalize Sm.lim 3 n = r3 at *
  go_enter Tryz.func187, Tryz.ntmps187
  go_wp2_with fail
  exact bodyPost_ret (v := .tuple #[.int .u64 a0, .int .u64 a1, .int .u64 a2, .int .u64 a3]) (by simp [results, Tryz.results187, go_sem, wm1, x0, x1, x2, x3]) rfl ⟨rfl, rfl⟩
 ·have eu : -((Sm.V a0 a1 a2 a3 - Sm.L) / 115792089237316195423570985008687907853269984665640564039457584007913129639936) = 0 := by unfold Sm.L at *; omega
  rw [eu] at A3
  have em : Sm.V a0 a1 a2 a3 % Sm.L = Sm.V a0 a1 a2 a3 - Sm.L := by unfold Sm.L at *; omega
  rw [em]
  unfold lt
  have x0 := xmask0 _ _ l0 h0
  have x1 := xmask0 _ _ l1 h1
  have x2 := xmask0 _ _ l2 h2
  have x3 := xmask0 _ _ l3 h3
  clear eu em hVb hVi hn hc l0 l1 l2 l3 h0 h1 h2 h3
  generalize Sm.V a0 a1 a2 a3 - Sm.L = n at *
  generalize -((a2 - 0 - -((a1 - 1503914060200516822 - -((a0 - 6346243789798364141 - 0) / 18446744073709551616)) / 18446744073709551616)) / 18446744073709551616) = c3 at *
  generalize -((a1 - 1503914060200516822 - -((a0 - 6346243789798364141 - 0) / 18446744073709551616)) / 18446744073709551616) = c2 at *
  generalize -((a0 - 6346243789798364141 - 0) / 18446744073709551616) = c1 at *
  generalize Sm.lim 0 n = r0 at *
  generalize Sm.lim 1 n = r1 at *
  generalize Sm.lim 2 n = r2 at *
  generalize Sm.lim 3 n = r3 at *
  go_enter Tryz.func187, Tryz.ntmps187
  go_wp2_with fail
  exact bodyPost_ret (v := .tuple #[.int .u64 r0, .int .u64 r1, .int .u64 r2, .int .u64 r3]) (by simp [results, Tryz.results187, go_sem]) rfl ⟨rfl, rfl⟩
set_option maxHeartbeats 1000000 in
theorem least_raw (a0 a1 a2 a3 : Int) (w : World) (hT : Tb w) (h0 : Sm.Wd a0) (h1 : Sm.Wd a1) (h2 : Sm.Wd a2) (h3 : Sm.Wd a3) :
  Calls Tryz.prog 171 #[.int .u64 a0, .int .u64 a1, .int .u64 a2, .int .u64 a3] w fun e w' => e = .returned (lt (Sm.V a0 a1 a2 a3 % Sm.L)) ∧ w' = w := by
 obtain ⟨q0, q1, hm0, hm1⟩ := Sm.least_math a0 a1 a2 a3 h0 h1 h2 h3 _ rfl
 have hT' := hT
 obtain ⟨t0, t1, -⟩ := hT'
 have b3 := h3
 unfold Sm.Wd at b3
 have K1 : 0 ≤ a3 / 1152921504606846976 ∧ a3 / 1152921504606846976 ≤ 15 := by omega
 have hqW : Sm.Wd (a3 / 1152921504606846976 - (a3 / 1152921504606846976 + 15) / 16) := by unfold Sm.Wd; omega
 have w0 : Sm.Wd 6346243789798364141 := by unfold Sm.Wd; omega
 have w1 : Sm.Wd 1503914060200516822 := by unfold Sm.Wd; omega
 have HT := Hn hT
 unfold lt
 clear hT
 go_enter Tryz.func171, Tryz.ntmps171
 go_wp2_with fail
 refine (mul64_any _ _ hqW w0 _).mono ?_
 rintro e w' ⟨rfl, rfl⟩
 clear K1 b3
 generalize a3 / 1152921504606846976 - (a3 / 1152921504606846976 + 15) / 16 = q at *
 have M1 := Hn (mul64_any q 1503914060200516822 hqW w1)
 obtain ⟨tm, v0, v1, v2, v3⟩ := Sm.times_math q q0 q1 _ _ rfl rfl
 obtain ⟨⟨m0, m1, m2, m3⟩, -⟩ := Sm.sub_math a0 a1 a2 a3 (q * 6346243789798364141 % 18446744073709551616) ((q * 1503914060200516822 % 18446744073709551616 + q * 6346243789798364141 / 18446744073709551616 + 0) % 18446744073709551616) (q * 1503914060200516822 / 18446744073709551616 + (q * 1503914060200516822 % 18446744073709551616 + q * 6346243789798364141 / 18446744073709551616 + 0) / 18446744073709551616) (q * 1152921504606846976) _ _ _ rfl rfl rfl
 rw [← tm] at m0 m1 m2 m3
 have B0 := Sm.borrow a0 _ 0 h0 v0 (by omega) (by omega)
 have S0 := sub64_run a0 _ 0 h0 v0 (by omega) (by omega)
 have B1 := Sm.borrow a1 _ _ h1 v1 B0.1 B0.2
 have S1 := sub64_run a1 _ _ h1 v1 B0.1 B0.2
 have B2 := Sm.borrow a2 _ _ h2 v2 B1.1 B1.2
 have S2 := sub64_run a2 _ _ h2 v2 B1.1 B1.2
 have S3 := sub64_run a3 _ _ h3 v3 B2.1 B2.2
 have A0 := add64_run (q * 1503914060200516822 % 18446744073709551616) (q * 6346243789798364141 / 18446744073709551616) 0 (by omega) (by omega) (by omega) (by omega)
 rw [m0] at S0
 rw [m1] at S1
 rw [m2] at S2
 rw [m3] at S3
 have e2 : IntKind.u64.wrap (q * 1503914060200516822 / 18446744073709551616 + (q * 1503914060200516822 % 18446744073709551616 + q * 6346243789798364141 / 18446744073709551616 + 0) / 18446744073709551616) = q * 1503914060200516822 / 18446744073709551616 + (q * 1503914060200516822 % 18446744073709551616 + q * 6346243789798364141 / 18446744073709551616 + 0) / 18446744073709551616 := by rw [IntKind.wrap_u64]; omega
 have e3 : IntKind.u64.wrap (q * 1152921504606846976) = q * 1152921504606846976 := by rw [IntKind.wrap_u64]; omega
 have hk : 0 ≤ Sm.V a0 a1 a2 a3 - q * Sm.L ∧ Sm.V a0 a1 a2 a3 - q * Sm.L < 115792089237316195423570985008687907853269984665640564039457584007913129639936 := by unfold Sm.L at *; omega
 have hV := Sm.V_lim _ hk.1 hk.2
 have LO := Hn (lessOnce_any (Sm.lim 0 (Sm.V a0 a1 a2 a3 - q * Sm.L)) (Sm.lim 1 (Sm.V a0 a1 a2 a3 - q * Sm.L)) (Sm.lim 2 (Sm.V a0 a1 a2 a3 - q * Sm.L)) (Sm.lim 3 (Sm.V a0 a1 a2 a3 - q * Sm.L)) w' HT.out (Sm.lim_wd _ _) (Sm.lim_wd _ _) (Sm.lim_wd _ _) (Sm.lim_wd _ _) (by rw [hV]; exact hm1))
 rw [hV] at LO
 have hmod : (Sm.V a0 a1 a2 a3 - q * Sm.L) % Sm.L = Sm.V a0 a1 a2 a3 % Sm.L := by rw [Int.sub_eq_add_neg, ← Int.neg_mul, Int.add_mul_emod_self_right]
 rw [hmod] at LO
 unfold lt at LO
 generalize hN : Sm.V a0 a1 a2 a3 % Sm.L = N at LO
 generalize Sm.V a0 a1 a2 a3 - q * Sm.L = n at *
 unfold Sm.Wd at v2 v3
 clear hmod hV hk hm0 hm1 tm m0 m1 m2 m3 B0 B1 B2 h0 h1 h2 h3 v0 v1 w0 w1 hqW
 generalize q * 1503914060200516822 / 18446744073709551616 = y1h at *
 generalize q * 1503914060200516822 % 18446744073709551616 = y1l at *
 generalize q * 6346243789798364141 / 18446744073709551616 = y0h at *
 generalize q * 6346243789798364141 % 18446744073709551616 = y0l at *
 generalize (y1l + y0h + 0) % 18446744073709551616 = x1 at *
 generalize (y1l + y0h + 0) / 18446744073709551616 = cc at *
 generalize -((a0 - y0l - 0) / 18446744073709551616) = c1 at *
 generalize -((a1 - x1 - c1) / 18446744073709551616) = c2 at *
 generalize -((a2 - (y1h + cc) - c2) / 18446744073709551616) = c3 at *
 generalize -((a3 - q * 1152921504606846976 - c3) / 18446744073709551616) = c4 at *
 go_wp2_with fail
 refine (M1.out _).mono ?_
 rintro e w' ⟨rfl, rfl⟩
 clear M1
 go_wp2_with fail
 refine LO.out.mono ?_
 rintro e w' ⟨rfl, rfl⟩
 clear LO
 go_wp2_with fail
 exact bodyPost_ret (v := .tuple #[.int .u64 (Sm.lim 0 N), .int .u64 (Sm.lim 1 N), .int .u64 (Sm.lim 2 N), .int .u64 (Sm.lim 3 N)]) (by simp [results, Tryz.results171, go_sem]) rfl ⟨by rw [hN], rfl⟩
end Go.Proofs.YtljmgfclhbadjaaGreatDoor
namespace Go.Proofs.YtljmgfclhbadjaaGreatDoor
set_option maxHeartbeats 1000000
open Go.RowKit
structure E4 where
 x0 : Int
 x1 : Int
 x2 : Int
 x3 : Int
def E4.ok (a : E4) : Prop := Sm.Wd a.x0 ∧ Sm.Wd a.x1 ∧ Sm.Wd a.x2 ∧ Sm.Wd a.x3
def E4.v (a : E4) : Value := .agg #[.int .u64 a.x0, .int .u64 a.x1, .int .u64 a.x2, .int .u64 a.x3]
def E4.n (a : E4) : Int := Sm.V a.x0 a.x1 a.x2 a.x3
def lst (n : Int) : E4 := ⟨Sm.lim 0 (n % Sm.L), Sm.lim 1 (n % Sm.L), Sm.lim 2 (n % Sm.L), Sm.lim 3 (n % Sm.L)⟩
theorem lst_ok (n : Int) : (lst n).ok := ⟨Sm.lim_wd 0 _, Sm.lim_wd 1 _, Sm.lim_wd 2 _, Sm.lim_wd 3 _⟩
theorem mod_bd (n : Int) : 0 ≤ n % Sm.L ∧ n % Sm.L < Sm.L := ⟨Int.emod_nonneg _ (by decide), Int.emod_lt_of_pos _ (by decide)⟩
theorem mod_bd4 (n : Int) : n % Sm.L < 115792089237316195423570985008687907853269984665640564039457584007913129639936 := Int.lt_trans (mod_bd n).2 (by decide)
theorem lst_n (n : Int) : (lst n).n = n % Sm.L := Sm.V_lim _ (mod_bd n).1 (mod_bd4 n)
def E4.is (r : E4) (n : Int) : Prop := r = lst n
theorem E4.is.ok {r : E4} {n : Int} (h : r.is n) : r.ok := by rw [h]; exact lst_ok n
theorem E4.is.n {r : E4} {n : Int} (h : r.is n) : r.n = n % Sm.L := by rw [h]; exact lst_n n
theorem E4.is.lt {r : E4} {n : Int} (h : r.is n) : r.n < Sm.L := by rw [h.n]; exact (mod_bd n).2
theorem ret4 {F : Nat} {w : World} {args : Array Value} {n m : Int} (h : n % Sm.L = m % Sm.L) (c : Calls Tryz.prog F args w fun e w' => e = .returned (lt (n % Sm.L)) ∧ w' = w) :
  Calls Tryz.prog F args w fun e w' => ∃ r : E4, e = .returned (.tuple #[.int .u64 r.x0, .int .u64 r.x1, .int .u64 r.x2, .int .u64 r.x3]) ∧ r.is m ∧ w' = w :=
 c.mono fun e w' q => ⟨lst n, q.1, by unfold E4.is lst; rw [h], q.2⟩
theorem bl_trans {w w1 w2 : World} (h1 : Below w.heap.size w w1) (h2 : Below w1.heap.size w1 w2) : Below w.heap.size w w2 := h1.trans (h2.mono h1.size)
theorem bl_alloc (w : World) (o : Obj) : Below w.heap.size w (w.alloc o) := (Below.refl _ _).alloc (Nat.le_refl _) _
theorem bl_alloc2 (w : World) (o p : Obj) : Below w.heap.size w ((w.alloc o).alloc p) := bl_trans (bl_alloc w o) (bl_alloc _ p)
theorem bl_alloc3 (w : World) (o p q : Obj) : Below w.heap.size w (((w.alloc o).alloc p).alloc q) := bl_trans (bl_alloc2 w o p) (bl_alloc _ q)
theorem bl_alloc4 (w : World) (o p q r : Obj) : Below w.heap.size w ((((w.alloc o).alloc p).alloc q).alloc r) := bl_trans (bl_alloc3 w o p q) (bl_alloc _ r)
theorem bl_set4 {w w3 : World} {b : Nat} (v0 v1 v2 v3 : Value) (h : Below w.heap.size w w3) (hb : w.heap.size ≤ b) :
  Below w.heap.size w ((((w3.setCell ⟨b, 0, none⟩ v0).setCell ⟨b, 1, none⟩ v1).setCell ⟨b, 2, none⟩ v2).setCell ⟨b, 3, none⟩ v3) :=
 (((h.setCell hb _).setCell hb _).setCell hb _).setCell hb _
theorem bcell {W w1 : World} (hb : Below W.heap.size W w1) : (∀ b o, b < W.heap.size → w1.cell? ⟨b, o, none⟩ = W.cell? ⟨b, o, none⟩) ∧ (∀ b o, b < W.heap.size → w1.frozen? ⟨b, o, none⟩ = W.frozen? ⟨b, o, none⟩) :=
 ⟨fun b o h => hb.cell (p := ⟨b, o, none⟩) h, fun b o h => hb.frozen (p := ⟨b, o, none⟩) h⟩
theorem Least_any (a : E4) (w : World) (hT : Tb w) (h : a.ok) :
  Calls Tryz.prog 96 #[a.v] w fun e w' => ∃ r : E4, e = .returned r.v ∧ r.is a.n ∧ Below w.heap.size w w' := by
 have c1 := fun w T => ret4 rfl (least_raw a.x0 a.x1 a.x2 a.x3 w T h.1 h.2.1 h.2.2.1 h.2.2.2)
 change ∀ w, Tb w → Calls _ _ _ w (fun e w' => ∃ r : E4, e = .returned (.tuple #[.int .u64 r.x0, .int .u64 r.x1, .int .u64 r.x2, .int .u64 r.x3]) ∧ r.is a.n ∧ w' = w) at c1
 simp only [E4.v] at c1 ⊢
 have C1 := Hn c1
 have HT := Hn hT
 clear c1 h hT
 generalize a.n = N at *
 go_enter Tryz.func96, Tryz.ntmps96
 go_wp2_with fail
 refine (C1.out _ (HT.out.keep (bl_alloc2 _ _ _))).mono ?_
 rintro e w' ⟨r, rfl, hr, rfl⟩
 clear C1
 go_wp2_with fail
 refine bodyPost_ret (v := .agg #[.int .u64 r.x0, .int .u64 r.x1, .int .u64 r.x2, .int .u64 r.x3]) (by simp [results, Tryz.results96, go_sem]) rfl ⟨r, rfl, hr, ?_⟩
 exact bl_alloc2 w _ _
theorem mod_add2 (a b : Int) : (a % Sm.L + b % Sm.L) % Sm.L = (a + b) % Sm.L := (Int.add_emod a b Sm.L).symm
theorem mod_sub2 (a b : Int) : (a % Sm.L + Sm.L - b % Sm.L) % Sm.L = (a - b) % Sm.L := by
 rw [show a % Sm.L + Sm.L - b % Sm.L = a % Sm.L - b % Sm.L + Sm.L by omega, Int.add_emod_right, ← Int.sub_emod]
theorem Add_any (a b : E4) (w : World) (hT : Tb w) (ha : a.ok) (hb : b.ok) :
  Calls Tryz.prog 124 #[a.v, b.v] w fun e w' => ∃ r : E4, e = .returned r.v ∧ r.is (a.n + b.n) ∧ Below w.heap.size w w' := by
 have c1 := fun w T => least_raw a.x0 a.x1 a.x2 a.x3 w T ha.1 ha.2.1 ha.2.2.1 ha.2.2.2
 have c2 := fun w T => least_raw b.x0 b.x1 b.x2 b.x3 w T hb.1 hb.2.1 hb.2.2.1 hb.2.2.2
 have hx := mod_bd a.n
 have hy := mod_bd b.n
 have c3 := fun w => sum_any _ _ _ _ _ _ _ _ w (Sm.lim_wd 0 (a.n % Sm.L)) (Sm.lim_wd 1 (a.n % Sm.L)) (Sm.lim_wd 2 (a.n % Sm.L)) (Sm.lim_wd 3 (a.n % Sm.L)) (Sm.lim_wd 0 (b.n % Sm.L)) (Sm.lim_wd 1 (b.n % Sm.L)) (Sm.lim_wd 2 (b.n % Sm.L)) (Sm.lim_wd 3 (b.n % Sm.L))
 have hsum : 0 ≤ a.n % Sm.L + b.n % Sm.L ∧ a.n % Sm.L + b.n % Sm.L < 2 * Sm.L := by omega
 have hV := Sm.V_lim (a.n % Sm.L + b.n % Sm.L) hsum.1 (Int.lt_trans hsum.2 (by decide))
 rw [Sm.V_lim _ hx.1 (mod_bd4 _), Sm.V_lim _ hy.1 (mod_bd4 _)] at c3
 have c4 := fun w T => ret4 (m := a.n + b.n) (by rw [hV, mod_add2]) (lessOnce_any _ _ _ _ w T (Sm.lim_wd 0 (a.n % Sm.L + b.n % Sm.L)) (Sm.lim_wd 1 (a.n % Sm.L + b.n % Sm.L)) (Sm.lim_wd 2 (a.n % Sm.L + b.n % Sm.L)) (Sm.lim_wd 3 (a.n % Sm.L + b.n % Sm.L)) (by rw [hV]; exact hsum.2))
 clear hV hsum hx hy ha hb
 change ∀ w, Tb w → Calls _ _ _ w (fun e w' => e = .returned (lt (a.n % Sm.L)) ∧ w' = w) at c1
 change ∀ w, Tb w → Calls _ _ _ w (fun e w' => e = .returned (lt (b.n % Sm.L)) ∧ w' = w) at c2
 generalize a.n + b.n = N at *
 generalize a.n % Sm.L + b.n % Sm.L = z at *
 generalize a.n % Sm.L = x at *
 generalize b.n % Sm.L = y at *
 unfold lt at c1 c2 c3
 generalize Sm.lim 0 x = x0 at *
 generalize Sm.lim 1 x = x1 at *
 generalize Sm.lim 2 x = x2 at *
 generalize Sm.lim 3 x = x3 at *
 generalize Sm.lim 0 y = y0 at *
 generalize Sm.lim 1 y = y1 at *
 generalize Sm.lim 2 y = y2 at *
 generalize Sm.lim 3 y = y3 at *
 generalize Sm.lim 0 z = z0 at *
 generalize Sm.lim 1 z = z1 at *
 generalize Sm.lim 2 z = z2 at *
 generalize Sm.lim 3 z = z3 at *
 simp only [E4.v]
 have C1 := Hn c1
 have C2 := Hn c2
 have C3 := Hn c3
 have C4 := Hn c4
 have HT := Hn (hT.keep (bl_alloc3 _ (.cells #[.int .u64 a.x0, .int .u64 a.x1, .int .u64 a.x2, .int .u64 a.x3] 53) (.cells #[.int .u64 b.x0, .int .u64 b.x1, .int .u64 b.x2, .int .u64 b.x3] 53) (.cells #[.int .u64 0, .int .u64 0, .int .u64 0, .int .u64 0] 53)))
 clear c1 c2 c3 c4 hT
 go_enter Tryz.func124, Tryz.ntmps124
 go_wp2_with fail
 refine (C1.out _ HT.out).mono ?_
 rintro e w' ⟨rfl, rfl⟩
 clear C1
 go_wp2_with fail
 refine (C2.out _ HT.out).mono ?_
 rintro e w' ⟨rfl, rfl⟩
 clear C2
 go_wp2_with fail
 refine (C3.out _).mono ?_
 rintro e w' ⟨rfl, rfl⟩
 clear C3
 go_wp2_with fail
 refine (C4.out _ HT.out).mono ?_
 rintro e w' ⟨r, rfl, hr, rfl⟩
 clear C4
 go_wp2_with fail
 refine bodyPost_ret (v := .agg #[.int .u64 r.x0, .int .u64 r.x1, .int .u64 r.x2, .int .u64 r.x3]) (by simp [results, Tryz.results124, go_sem]) rfl ⟨r, rfl, hr, ?_⟩
 exact bl_alloc3 w _ _ _
theorem Sub_any (a b : E4) (w : World) (hT : Tb w) (ha : a.ok) (hb : b.ok) :
  Calls Tryz.prog 215 #[a.v, b.v] w fun e w' => ∃ r : E4, e = .returned r.v ∧ r.is (a.n - b.n) ∧ Below w.heap.size w w' := by
 have c1 := fun w T => least_raw a.x0 a.x1 a.x2 a.x3 w T ha.1 ha.2.1 ha.2.2.1 ha.2.2.2
 have c2 := fun w T => least_raw b.x0 b.x1 b.x2 b.x3 w T hb.1 hb.2.1 hb.2.2.1 hb.2.2.2
 have hx := mod_bd a.n
 have hy := mod_bd b.n
 have w0 : Sm.Wd 6346243789798364141 := by unfold Sm.Wd; omega
 have w1 : Sm.Wd 1503914060200516822 := by unfold Sm.Wd; omega
 have w2 : Sm.Wd 0 := by unfold Sm.Wd; omega
 have w3 : Sm.Wd 1152921504606846976 := by unfold Sm.Wd; omega
 have c3 := fun w => sum_any _ _ _ _ _ _ _ _ w (Sm.lim_wd 0 (a.n % Sm.L)) (Sm.lim_wd 1 (a.n % Sm.L)) (Sm.lim_wd 2 (a.n % Sm.L)) (Sm.lim_wd 3 (a.n % Sm.L)) w0 w1 w2 w3
 rw [Sm.V_lim _ hx.1 (mod_bd4 _), show Sm.V 6346243789798364141 1503914060200516822 0 1152921504606846976 = Sm.L from rfl] at c3
 have hs1 : 0 ≤ a.n % Sm.L + Sm.L ∧ a.n % Sm.L + Sm.L < 2 * Sm.L := by unfold Sm.L at *; omega
 have hV1 := Sm.V_lim (a.n % Sm.L + Sm.L) hs1.1 (Int.lt_trans hs1.2 (by decide))
 have hVy := Sm.V_lim _ hy.1 (mod_bd4 b.n)
 have hs2 : 0 ≤ a.n % Sm.L + Sm.L - b.n % Sm.L ∧ a.n % Sm.L + Sm.L - b.n % Sm.L < 2 * Sm.L := by unfold Sm.L at *; omega
 have hV2 := Sm.V_lim (a.n % Sm.L + Sm.L - b.n % Sm.L) hs2.1 (Int.lt_trans hs2.2 (by decide))
 have c4 := fun w T => ret4 (m := a.n - b.n) (by rw [hV2, mod_sub2]) (lessOnce_any _ _ _ _ w T (Sm.lim_wd 0 (a.n % Sm.L + Sm.L - b.n % Sm.L)) (Sm.lim_wd 1 (a.n % Sm.L + Sm.L - b.n % Sm.L)) (Sm.lim_wd 2 (a.n % Sm.L + Sm.L - b.n % Sm.L)) (Sm.lim_wd 3 (a.n % Sm.L + Sm.L - b.n % Sm.L)) (by rw [hV2]; exact hs2.2))
 obtain ⟨⟨m0, m1, m2, m3⟩, -⟩ := Sm.sub_math (Sm.lim 0 (a.n % Sm.L + Sm.L)) (Sm.lim 1 (a.n % Sm.L + Sm.L)) (Sm.lim 2 (a.n % Sm.L + Sm.L)) (Sm.lim 3 (a.n % Sm.L + Sm.L)) (Sm.lim 0 (b.n % Sm.L)) (Sm.lim 1 (b.n % Sm.L)) (Sm.lim 2 (b.n % Sm.L)) (Sm.lim 3 (b.n % Sm.L)) _ _ _ rfl rfl rfl
 rw [hV1, hVy] at m0 m1 m2 m3
 have B0 := Sm.borrow (Sm.lim 0 (a.n % Sm.L + Sm.L)) (Sm.lim 0 (b.n % Sm.L)) 0 (Sm.lim_wd _ _) (Sm.lim_wd _ _) (by omega) (by omega)
 have S0 := sub64_run (Sm.lim 0 (a.n % Sm.L + Sm.L)) (Sm.lim 0 (b.n % Sm.L)) 0 (Sm.lim_wd _ _) (Sm.lim_wd _ _) (by omega) (by omega)
 have B1 := Sm.borrow (Sm.lim 1 (a.n % Sm.L + Sm.L)) (Sm.lim 1 (b.n % Sm.L)) _ (Sm.lim_wd _ _) (Sm.lim_wd _ _) B0.1 B0.2
 have S1 := sub64_run (Sm.lim 1 (a.n % Sm.L + Sm.L)) (Sm.lim 1 (b.n % Sm.L)) _ (Sm.lim_wd _ _) (Sm.lim_wd _ _) B0.1 B0.2
 have B2 := Sm.borrow (Sm.lim 2 (a.n % Sm.L + Sm.L)) (Sm.lim 2 (b.n % Sm.L)) _ (Sm.lim_wd _ _) (Sm.lim_wd _ _) B1.1 B1.2
 have S2 := sub64_run (Sm.lim 2 (a.n % Sm.L + Sm.L)) (Sm.lim 2 (b.n % Sm.L)) _ (Sm.lim_wd _ _) (Sm.lim_wd _ _) B1.1 B1.2
 have S3 := sub64_run (Sm.lim 3 (a.n % Sm.L + Sm.L)) (Sm.lim 3 (b.n % Sm.L)) _ (Sm.lim_wd _ _) (Sm.lim_wd _ _) B2.1 B2.2
 rw [m0] at S0
 rw [m1] at S1
 rw [m2] at S2
 rw [m3] at S3
 clear hV1 hVy hV2 hs1 hs2 hx hy ha hb w0 w1 w2 w3 m0 m1 m2 m3 B0 B1 B2
 change ∀ w, Tb w → Calls _ _ _ w (fun e w' => e = .returned (lt (a.n % Sm.L)) ∧ w' = w) at c1
 change ∀ w, Tb w → Calls _ _ _ w (fun e w' => e = .returned (lt (b.n % Sm.L)) ∧ w' = w) at c2
 generalize a.n - b.n = N at *
 generalize a.n % Sm.L + Sm.L - b.n % Sm.L = z at *
 generalize a.n % Sm.L + Sm.L = u at *
 generalize a.n % Sm.L = x at *
 generalize b.n % Sm.L = y at *
 unfold lt at c1 c2 c3
 generalize Sm.lim 0 x = x0 at *
 generalize Sm.lim 1 x = x1 at *
 generalize Sm.lim 2 x = x2 at *
 generalize Sm.lim 3 x = x3 at *
 generalize Sm.lim 0 y = y0 at *
 generalize Sm.lim 1 y = y1 at *
 generalize Sm.lim 2 y = y2 at *
 generalize Sm.lim 3 y = y3 at *
 generalize Sm.lim 0 z = z0 at *
 generalize Sm.lim 1 z = z1 at *
 generalize Sm.lim 2 z = z2 at *
 generalize Sm.lim 3 z = z3 at *
 generalize Sm.lim 0 u = u0 at *
 generalize Sm.lim 1 u = u1 at *
 generalize Sm.lim 2 u = u2 at *
 generalize Sm.lim 3 u = u3 at *
 generalize -((u0 - y0 - 0) / 18446744073709551616) = d1 at *
 generalize -((u1 - y1 - d1) / 18446744073709551616) = d2 at *
 generalize -((u2 - y2 - d2) / 18446744073709551616) = d3 at *
 generalize -((u3 - y3 - d3) / 18446744073709551616) = d4 at *
 simp only [E4.v]
 have C1 := Hn c1
 have C2 := Hn c2
 have C3 := Hn c3
 have C4 := Hn c4
 have HT := Hn hT
 obtain ⟨t0, t1, t2, t3, -⟩ := hT
 have hz0 : 1 < w.heap.size := World.block_lt_of_cell? w ⟨1, 0, none⟩ t0
 have hzA : ¬ w.heap.size = 1 := by omega
 have hzB : ¬ 1 = w.heap.size := by omega
 have hzC : 0 < w.heap.size := by omega
 have hzD : 1 < w.heap.size + 1 := by omega
 have hzE : 1 < w.heap.size + 1 + 1 := by omega
 clear c1 c2 c3 c4
 go_enter Tryz.func215, Tryz.ntmps215
 go_wp2_with fail
 refine (C1.out _ (HT.out.keep (bl_alloc4 _ _ _ _ _))).mono ?_
 rintro e w' ⟨rfl, rfl⟩
 clear C1
 go_wp2_with fail
 refine (C2.out _ (HT.out.keep (bl_alloc4 _ _ _ _ _))).mono ?_
 rintro e w' ⟨rfl, rfl⟩
 clear C2
 go_wp2_with fail
 refine (C3.out _).mono ?_
 rintro e w' ⟨rfl, rfl⟩
 clear C3
 go_wp2_with fail
 refine (C4.out _ (HT.out.keep (bl_alloc4 _ _ _ _ _))).mono ?_
 rintro e w' ⟨r, rfl, hr, rfl⟩
 clear C4
 go_wp2_with fail
 refine bodyPost_ret (v := .agg #[.int .u64 r.x0, .int .u64 r.x1, .int .u64 r.x2, .int .u64 r.x3]) (by simp [results, Tryz.results215, go_sem]) rfl ⟨r, rfl, hr, ?_⟩
 exact bl_alloc4 w _ _ _ _
end Go.Proofs.YtljmgfclhbadjaaGreatDoor
namespace Go.Proofs.YtljmgfclhbadjaaGreatDoor
open Go.RowKit
structure Blc (w : World) (b : Nat) (r : E4) : Prop where
 c0 : w.cell? ⟨b, 0, none⟩ = some (.int .u64 r.x0)
 c1 : w.cell? ⟨b, 1, none⟩ = some (.int .u64 r.x1)
 c2 : w.cell? ⟨b, 2, none⟩ = some (.int .u64 r.x2)
 c3 : w.cell? ⟨b, 3, none⟩ = some (.int .u64 r.x3)
structure Wrt (w : World) (b : Nat) : Prop where
 f0 : w.frozen? ⟨b, 0, none⟩ = false
 f1 : w.frozen? ⟨b, 1, none⟩ = false
 f2 : w.frozen? ⟨b, 2, none⟩ = false
 f3 : w.frozen? ⟨b, 3, none⟩ = false
theorem Blc.lt {w : World} {b : Nat} {r : E4} (h : Blc w b r) : b < w.heap.size := World.block_lt_of_cell? w ⟨b, 0, none⟩ h.c0
theorem Blc.keep {w1 w2 : World} {b : Nat} {r : E4} (h : Blc w1 b r) (hb : Below w1.heap.size w1 w2) : Blc w2 b r :=
 ⟨cell_keep h.c0 hb, cell_keep h.c1 hb, cell_keep h.c2 hb, cell_keep h.c3 hb⟩
theorem Blc.drew {w : World} {b : Nat} {r : E4} (h : Blc w b r) : Blc w.drew b r := h.keep ((Below.refl _ _).drew)
theorem Wrt.keep {w1 w2 : World} {b : Nat} (h : Wrt w1 b) (hl : b < w1.heap.size) (hb : Below w1.heap.size w1 w2) : Wrt w2 b :=
 ⟨((bcell hb).2 _ _ hl).trans h.f0, ((bcell hb).2 _ _ hl).trans h.f1, ((bcell hb).2 _ _ hl).trans h.f2, ((bcell hb).2 _ _ hl).trans h.f3⟩
def set4 (w : World) (b : Nat) (r : E4) : World :=
 (((w.setCell ⟨b, 0, none⟩ (.int .u64 r.x0)).setCell ⟨b, 1, none⟩ (.int .u64 r.x1)).setCell ⟨b, 2, none⟩ (.int .u64 r.x2)).setCell ⟨b, 3, none⟩ (.int .u64 r.x3)
theorem set4_cell_far (w : World) (b : Nat) (r : E4) (a : Addr) (h : b ≠ a.block) : (set4 w b r).cell? a = w.cell? a := by
 unfold set4
 rw [World.cell?_setCell_far _ _ _ _ h, World.cell?_setCell_far _ _ _ _ h, World.cell?_setCell_far _ _ _ _ h, World.cell?_setCell_far _ _ _ _ h]
theorem Blc.far {w : World} {b c : Nat} {r s : E4} (h : Blc w b r) (hne : c ≠ b) : Blc (set4 w c s) b r :=
 ⟨(set4_cell_far w c s _ hne).trans h.c0, (set4_cell_far w c s _ hne).trans h.c1, (set4_cell_far w c s _ hne).trans h.c2, (set4_cell_far w c s _ hne).trans h.c3⟩
theorem Blc.set {w : World} {b : Nat} {r : E4} (h : Blc w b r) (s : E4) : Blc (set4 w b s) b s := by
 obtain ⟨h0, h1, h2, h3⟩ := h
 constructor <;> (unfold set4; go_simp)
theorem set4_below (w : World) (b : Nat) (r : E4) {w0 : World} (h : Below w0.heap.size w0 w) (hb : w0.heap.size ≤ b) : Below w0.heap.size w0 (set4 w b r) := bl_set4 _ _ _ _ h hb
theorem Wrt.set {w : World} {b c : Nat} {s : E4} (h : Wrt w b) : Wrt (set4 w c s) b := by
 obtain ⟨h0, h1, h2, h3⟩ := h
 constructor <;> (unfold set4; go_simp)
theorem set4_size (w : World) (b : Nat) (r : E4) : (set4 w b r).heap.size = w.heap.size := by unfold set4; simp
theorem Blc.new (w : World) (r : E4) (t : TypeId) : Blc (w.alloc (.cells #[.int .u64 r.x0, .int .u64 r.x1, .int .u64 r.x2, .int .u64 r.x3] t)) w.heap.size r := by
 constructor <;> go_simp
theorem Wrt.new (w : World) (r : E4) (t : TypeId) : Wrt (w.alloc (.cells #[.int .u64 r.x0, .int .u64 r.x1, .int .u64 r.x2, .int .u64 r.x3] t)) w.heap.size := by
 constructor <;> go_simp
def zero4 : E4 := ⟨0, 0, 0, 0⟩
theorem Blc.new0 (w : World) (t : TypeId) : Blc (w.alloc (.cells #[.int .u64 0, .int .u64 0, .int .u64 0, .int .u64 0] t)) w.heap.size zero4 := Blc.new w zero4 t
theorem Wrt.new0 (w : World) (t : TypeId) : Wrt (w.alloc (.cells #[.int .u64 0, .int .u64 0, .int .u64 0, .int .u64 0] t)) w.heap.size := Wrt.new w zero4 t
theorem Blc.new1 (w : World) (o : Obj) (t : TypeId) : Blc ((w.alloc o).alloc (.cells #[.int .u64 0, .int .u64 0, .int .u64 0, .int .u64 0] t)) (w.heap.size + 1) zero4 := by
 have := Blc.new0 (w.alloc o) t
 simpa using this
theorem Wrt.new1 (w : World) (o : Obj) (t : TypeId) : Wrt ((w.alloc o).alloc (.cells #[.int .u64 0, .int .u64 0, .int .u64 0, .int .u64 0] t)) (w.heap.size + 1) := by
 have := Wrt.new0 (w.alloc o) t
 simpa using this
theorem Blc.new2 (w : World) (o p : Obj) (t : TypeId) : Blc (((w.alloc o).alloc p).alloc (.cells #[.int .u64 0, .int .u64 0, .int .u64 0, .int .u64 0] t)) (w.heap.size + 1 + 1) zero4 := by
 have := Blc.new0 ((w.alloc o).alloc p) t
 simpa using this
theorem Wrt.new2 (w : World) (o p : Obj) (t : TypeId) : Wrt (((w.alloc o).alloc p).alloc (.cells #[.int .u64 0, .int .u64 0, .int .u64 0, .int .u64 0] t)) (w.heap.size + 1 + 1) := by
 have := Wrt.new0 ((w.alloc o).alloc p) t
 simpa using this
structure St (w0 : World) (L : List (Nat × E4)) (R : List Nat) (w : World) : Prop where
 live : ∀ p ∈ L, Blc w p.1 p.2
 wrt : ∀ b ∈ R, Wrt w b ∧ b < w.heap.size
 bel : Below w0.heap.size w0 w
theorem St.keep {w0 : World} {L : List (Nat × E4)} {R : List Nat} {w1 w2 : World} (h : St w0 L R w1) (hb : Below w1.heap.size w1 w2) : St w0 L R w2 :=
 ⟨fun p hp => (h.live p hp).keep hb, fun b hb' => ⟨(h.wrt b hb').1.keep (h.wrt b hb').2 hb, Nat.lt_of_lt_of_le (h.wrt b hb').2 hb.size⟩, bl_trans h.bel hb⟩
theorem St.drew {w0 : World} {L : List (Nat × E4)} {R : List Nat} {w1 : World} (h : St w0 L R w1) : St w0 L R w1.drew := h.keep ((Below.refl _ _).drew)
theorem St.new {w0 : World} {L : List (Nat × E4)} {R : List Nat} {w1 : World} (h : St w0 L R w1) (r : E4) (t : TypeId) :
  St w0 ((w1.heap.size, r) :: L) R (w1.alloc (.cells #[.int .u64 r.x0, .int .u64 r.x1, .int .u64 r.x2, .int .u64 r.x3] t)) := by
 have k := h.keep (bl_alloc w1 (.cells #[.int .u64 r.x0, .int .u64 r.x1, .int .u64 r.x2, .int .u64 r.x3] t))
 refine ⟨fun p hp => ?_, k.wrt, k.bel⟩
 rcases List.mem_cons.1 hp with rfl | hp
 ·exact Blc.new w1 r t
 ·exact k.live p hp
theorem St.sub {w0 : World} {L M : List (Nat × E4)} {R : List Nat} {w1 : World} (h : St w0 L R w1) (hs : ∀ p ∈ M, p ∈ L) : St w0 M R w1 := ⟨fun p hp => h.live p (hs p hp), h.wrt, h.bel⟩
theorem St.set {w0 : World} {L M : List (Nat × E4)} {R : List Nat} {w1 : World} {b : Nat} {old : E4} (h : St w0 L R w1) (s : E4) (hb : (b, old) ∈ L) (h0 : w0.heap.size ≤ b) (hs : ∀ p ∈ M, p ∈ L ∧ b ≠ p.1) :
  St w0 ((b, s) :: M) R (set4 w1 b s) := by
 refine ⟨fun p hp => ?_, fun c hc => ⟨(h.wrt c hc).1.set, by rw [set4_size]; exact (h.wrt c hc).2⟩, set4_below _ _ _ h.bel h0⟩
 rcases List.mem_cons.1 hp with rfl | hp
 ·exact (h.live _ hb).set s
 ·exact (h.live p (hs p hp).1).far (hs p hp).2
theorem St.aside {w0 : World} {L : List (Nat × E4)} {R : List Nat} {w1 : World} {b : Nat} (h : St w0 L R w1) (hn : ∀ p ∈ L, b ≠ p.1) (h0 : w0.heap.size ≤ b) (s : E4) : St w0 L R (set4 w1 b s) :=
 ⟨fun p hp => (h.live p hp).far (hn p hp), fun c hc => ⟨(h.wrt c hc).1.set, by rw [set4_size]; exact (h.wrt c hc).2⟩, set4_below _ _ _ h.bel h0⟩
theorem St.again {w0 : World} {L : List (Nat × E4)} {R : List Nat} {w1 : World} {b : Nat} {s : E4} (h : St w0 L R w1) (hb : (b, s) ∈ L) (hn : ∀ p ∈ L, b ≠ p.1 ∨ p = (b, s)) (h0 : w0.heap.size ≤ b) : St w0 L R (set4 w1 b s) :=
 ⟨fun p hp => by
  rcases hn p hp with hq | hq
  ·exact (h.live p hp).far hq
  ·subst hq; exact (h.live _ hb).set s, fun c hc => ⟨(h.wrt c hc).1.set, by rw [set4_size]; exact (h.wrt c hc).2⟩, set4_below _ _ _ h.bel h0⟩
theorem St.start (w : World) (a : E4) (t : TypeId) : St w [(w.heap.size, a)] [] (w.alloc (.cells #[.int .u64 a.x0, .int .u64 a.x1, .int .u64 a.x2, .int .u64 a.x3] t)) := by
 have h0 : St w [] [] w := ⟨fun p hp => absurd hp (by simp), fun b hb => absurd hb (by simp), Below.refl _ _⟩
 exact h0.new a t
theorem St.room {w0 : World} {L : List (Nat × E4)} {R : List Nat} {w1 : World} (h : St w0 L R w1) (t : TypeId) :
  St w0 ((w1.heap.size, zero4) :: L) (w1.heap.size :: R) (w1.alloc (.cells #[.int .u64 0, .int .u64 0, .int .u64 0, .int .u64 0] t)) := by
 have k := h.new zero4 t
 refine ⟨k.live, fun b hb => ?_, k.bel⟩
 rcases List.mem_cons.1 hb with rfl | hb
 ·exact ⟨Wrt.new w1 zero4 t, by simp⟩
 ·exact k.wrt b hb
theorem St.roomR {w0 : World} {L : List (Nat × E4)} {R : List Nat} {w1 : World} (h : St w0 L R w1) (r : E4) (t : TypeId) :
  St w0 ((w1.heap.size, r) :: L) (w1.heap.size :: R) (w1.alloc (.cells #[.int .u64 r.x0, .int .u64 r.x1, .int .u64 r.x2, .int .u64 r.x3] t)) := by
 have k := h.new r t
 refine ⟨k.live, fun b hb => ?_, k.bel⟩
 rcases List.mem_cons.1 hb with rfl | hb
 ·exact ⟨Wrt.new w1 r t, by simp⟩
 ·exact k.wrt b hb
theorem St.nil (w : World) : St w [] [] w := ⟨fun p hp => absurd hp (by simp), fun b hb => absurd hb (by simp), Below.refl _ _⟩
theorem St.tb {w0 : World} {L : List (Nat × E4)} {R : List Nat} {w1 : World} (h : St w0 L R w1) (hT : Tb w0) : Tb w1 := hT.keep h.bel
theorem is_of {r : E4} {n m : Int} (h : r.is n) (e : n % Sm.L = m % Sm.L) : r.is m := by unfold E4.is lst at *; rw [h, e]
theorem mul_cong {a b c d : Int} (h : a % Sm.L = b % Sm.L) (k : c % Sm.L = d % Sm.L) : a * c % Sm.L = b * d % Sm.L := by rw [Int.mul_emod, h, k, ← Int.mul_emod]
theorem emod_emod_L (n : Int) : n % Sm.L % Sm.L = n % Sm.L := Int.emod_emod_of_dvd _ (Int.dvd_refl _)
theorem E4.is.m {r : E4} {n : Int} (h : r.is n) : r.n % Sm.L = n % Sm.L := by rw [h.n, emod_emod_L]
end Go.Proofs.YtljmgfclhbadjaaGreatDoor
