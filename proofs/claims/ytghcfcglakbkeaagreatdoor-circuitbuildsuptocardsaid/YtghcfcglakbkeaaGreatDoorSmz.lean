import Derived.Test.YtghcfcglakbkeaaGreatDoorTk
import Derived.Test.YtghcfcglakbkeaaGreatDoorProg
import Derived.Laws.BitsAllLaws
import Derived.Lib.Mul64
import Derived.Laws.Bits64b
import Derived.Laws.Externs
namespace Go.Proofs.YtghcfcglakbkeaaGreatDoor.Sm
-- B = 2^64, the prime is L
def V (a0 a1 a2 a3 : Int) : Int := a0 + 18446744073709551616 * a1 + 340282366920938463463374607431768211456 * a2 + 6277101735386680763835789423207666416102355444464034512896 * a3
def L : Int := 7237005577332262213973186563042994240857116359379907606001950938285454250989
def Wd (x : Int) : Prop := 0 ≤ x ∧ x < 18446744073709551616
def lim (i : Nat) (n : Int) : Int := match i with
 | 0 => n % 18446744073709551616
 | 1 => n / 18446744073709551616 % 18446744073709551616
 | 2 => n / 340282366920938463463374607431768211456 % 18446744073709551616
 | _ => n / 6277101735386680763835789423207666416102355444464034512896 % 18446744073709551616
theorem lim_wd (i : Nat) (n : Int) : Wd (lim i n) := by
 unfold lim Wd; split <;> omega
theorem lim_of (n d0 d1 d2 d3 k : Int) (h0 : Wd d0) (h1 : Wd d1) (h2 : Wd d2) (h3 : Wd d3) (hn : V d0 d1 d2 d3 + 115792089237316195423570985008687907853269984665640564039457584007913129639936 * k = n) :
  d0 = lim 0 n ∧ d1 = lim 1 n ∧ d2 = lim 2 n ∧ d3 = lim 3 n := by
 unfold V at hn; unfold Wd at *
 simp only [lim]
 have e0 : n / 18446744073709551616 = d1 + 18446744073709551616 * d2 + 340282366920938463463374607431768211456 * d3 + 6277101735386680763835789423207666416102355444464034512896 * k := by omega
 have e1 : n / 340282366920938463463374607431768211456 = d2 + 18446744073709551616 * d3 + 340282366920938463463374607431768211456 * k := by omega
 have e2 : n / 6277101735386680763835789423207666416102355444464034512896 = d3 + 18446744073709551616 * k := by omega
 rw [e0, e1, e2]
 refine ⟨by omega, by omega, by omega, by omega⟩
theorem V_bd (a0 a1 a2 a3 : Int) (h0 : Wd a0) (h1 : Wd a1) (h2 : Wd a2) (h3 : Wd a3) : 0 ≤ V a0 a1 a2 a3 ∧ V a0 a1 a2 a3 < 115792089237316195423570985008687907853269984665640564039457584007913129639936 := by
 unfold V; unfold Wd at *; omega
theorem V_lim (n : Int) (h0 : 0 ≤ n) (h1 : n < 115792089237316195423570985008687907853269984665640564039457584007913129639936) : V (lim 0 n) (lim 1 n) (lim 2 n) (lim 3 n) = n := by
 unfold V; simp only [lim]
 have f1 : n / 340282366920938463463374607431768211456 = n / 18446744073709551616 / 18446744073709551616 := by omega
 have f2 : n / 6277101735386680763835789423207666416102355444464034512896 = n / 340282366920938463463374607431768211456 / 18446744073709551616 := by omega
 generalize hx1 : n / 18446744073709551616 = x1 at *
 generalize hx2 : n / 340282366920938463463374607431768211456 = x2 at *
 generalize hx3 : n / 6277101735386680763835789423207666416102355444464034512896 = x3 at *
 omega
theorem V_inj {a0 a1 a2 a3 n : Int} (h0 : Wd a0) (h1 : Wd a1) (h2 : Wd a2) (h3 : Wd a3) (hn : V a0 a1 a2 a3 = n) :
  a0 = lim 0 n ∧ a1 = lim 1 n ∧ a2 = lim 2 n ∧ a3 = lim 3 n := lim_of n a0 a1 a2 a3 0 h0 h1 h2 h3 (by omega)
theorem sum_math (a0 a1 a2 a3 b0 b1 b2 b3 c1 c2 c3 : Int)
  (e1 : c1 = (a0 + b0 + 0) / 18446744073709551616) (e2 : c2 = (a1 + b1 + c1) / 18446744073709551616) (e3 : c3 = (a2 + b2 + c2) / 18446744073709551616) :
  (a0 + b0 + 0) % 18446744073709551616 = lim 0 (V a0 a1 a2 a3 + V b0 b1 b2 b3) ∧ (a1 + b1 + c1) % 18446744073709551616 = lim 1 (V a0 a1 a2 a3 + V b0 b1 b2 b3) ∧ (a2 + b2 + c2) % 18446744073709551616 = lim 2 (V a0 a1 a2 a3 + V b0 b1 b2 b3) ∧ (a3 + b3 + c3) % 18446744073709551616 = lim 3 (V a0 a1 a2 a3 + V b0 b1 b2 b3) := by
 refine lim_of _ _ _ _ _ ((a3 + b3 + c3) / 18446744073709551616) ?_ ?_ ?_ ?_ ?_
 ·unfold Wd; omega
 ·unfold Wd; omega
 ·unfold Wd; omega
 ·unfold Wd; omega
 ·unfold V; omega
theorem sub_math (a0 a1 a2 a3 b0 b1 b2 b3 c1 c2 c3 : Int)
  (e1 : c1 = -((a0 - b0 - 0) / 18446744073709551616)) (e2 : c2 = -((a1 - b1 - c1) / 18446744073709551616)) (e3 : c3 = -((a2 - b2 - c2) / 18446744073709551616)) :
  ((a0 - b0 - 0) % 18446744073709551616 = lim 0 (V a0 a1 a2 a3 - V b0 b1 b2 b3) ∧ (a1 - b1 - c1) % 18446744073709551616 = lim 1 (V a0 a1 a2 a3 - V b0 b1 b2 b3) ∧ (a2 - b2 - c2) % 18446744073709551616 = lim 2 (V a0 a1 a2 a3 - V b0 b1 b2 b3) ∧ (a3 - b3 - c3) % 18446744073709551616 = lim 3 (V a0 a1 a2 a3 - V b0 b1 b2 b3)) ∧ -((a3 - b3 - c3) / 18446744073709551616) = -((V a0 a1 a2 a3 - V b0 b1 b2 b3) / 115792089237316195423570985008687907853269984665640564039457584007913129639936) := by
 constructor
 ·refine lim_of _ _ _ _ _ ((a3 - b3 - c3) / 18446744073709551616) ?_ ?_ ?_ ?_ ?_
  ·unfold Wd; omega
  ·unfold Wd; omega
  ·unfold Wd; omega
  ·unfold Wd; omega
  ·unfold V; omega
 ·unfold V; omega
theorem borrow (x y c : Int) (hx : Wd x) (hy : Wd y) (h0 : 0 ≤ c) (h1 : c ≤ 1) : 0 ≤ -((x - y - c) / 18446744073709551616) ∧ -((x - y - c) / 18446744073709551616) ≤ 1 := by
 unfold Wd at *; omega
theorem least_math (a0 a1 a2 a3 : Int) (h0 : Wd a0) (h1 : Wd a1) (h2 : Wd a2) (h3 : Wd a3) (q : Int) (hq : q = a3 / 1152921504606846976 - (a3 / 1152921504606846976 + 15) / 16) :
  0 ≤ q ∧ q ≤ 14 ∧ 0 ≤ V a0 a1 a2 a3 - q * L ∧ V a0 a1 a2 a3 - q * L < 2 * L := by
 unfold Wd at *
 have hd : 0 ≤ a3 / 1152921504606846976 ∧ a3 / 1152921504606846976 ≤ 15 := by omega
 have hV : a3 / 1152921504606846976 * 7237005577332262213973186563042994240829374041602535252466099000494570602496 ≤ V a0 a1 a2 a3 ∧ V a0 a1 a2 a3 < (a3 / 1152921504606846976 + 1) * 7237005577332262213973186563042994240829374041602535252466099000494570602496 := by unfold V; omega
 generalize V a0 a1 a2 a3 = n at *
 generalize a3 / 1152921504606846976 = d at *
 unfold L
 omega
theorem times_math (q : Int) (h0 : 0 ≤ q) (h1 : q ≤ 14) (x c : Int)
  (hx : x = q * 1503914060200516822 % 18446744073709551616 + q * 6346243789798364141 / 18446744073709551616 + 0) (hc : c = x / 18446744073709551616) :
  q * L = V (q * 6346243789798364141 % 18446744073709551616) (x % 18446744073709551616) (q * 1503914060200516822 / 18446744073709551616 + c) (q * 1152921504606846976) ∧ Wd (q * 6346243789798364141 % 18446744073709551616) ∧ Wd (x % 18446744073709551616) ∧ Wd (q * 1503914060200516822 / 18446744073709551616 + c) ∧ Wd (q * 1152921504606846976) := by
 unfold L V Wd
 omega
theorem step_math (p c d : Int) (hp : 0 ≤ p) (hc : Wd c) (hd : Wd d) (hs : p + c + d < 340282366920938463463374607431768211456) :
  ((p % 18446744073709551616 + c + 0) % 18446744073709551616 + d + 0) % 18446744073709551616 = (p + c + d) % 18446744073709551616 ∧ ((p / 18446744073709551616 + 0 + (p % 18446744073709551616 + c + 0) / 18446744073709551616) % 18446744073709551616 + 0 + ((p % 18446744073709551616 + c + 0) % 18446744073709551616 + d + 0) / 18446744073709551616) % 18446744073709551616 = (p + c + d) / 18446744073709551616 := by
 unfold Wd at *
 omega
theorem mul_le (a b : Int) (ha : Wd a) (hb : Wd b) : 0 ≤ a * b ∧ a * b ≤ 340282366920938463426481119284349108225 := by
 unfold Wd at *
 refine ⟨Int.mul_nonneg ha.1 hb.1, ?_⟩
 have := Int.mul_le_mul (show a ≤ 18446744073709551616 - 1 by omega) (show b ≤ 18446744073709551616 - 1 by omega) hb.1 (by omega)
 omega
theorem step_lt (a b c d : Int) (ha : Wd a) (hb : Wd b) (hc : Wd c) (hd : Wd d) : 0 ≤ a * b + c + d ∧ a * b + c + d < 340282366920938463463374607431768211456 := by
 have := mul_le a b ha hb
 unfold Wd at *
 omega
end Go.Proofs.YtghcfcglakbkeaaGreatDoor.Sm
namespace Go.Proofs.YtghcfcglakbkeaaGreatDoor
set_option maxHeartbeats 1000000
open Go.RowKit
theorem Hn {p : Prop} (h : p) : Hid p := h
namespace M64
theorem maskN (a : Nat) (ha : a < 18446744073709551616) : bits .and .u64 (a : Int) 4294967295 = ((a % 4294967296 : Nat) : Int) := by
 have h := bits_and_u64_nat a 4294967295 ha (by omega)
 have e : a &&& 4294967295 = a % 4294967296 := Nat.and_two_pow_sub_one_eq_mod a 32
 rw [e] at h
 exact h
theorem divN (a : Nat) : (a : Int) / 4294967296 = ((a / 4294967296 : Nat) : Int) := by omega
theorem mulN (a b : Nat) : (a : Int) * (b : Int) = ((a * b : Nat) : Int) := (Int.natCast_mul a b).symm
theorem addN (a b : Nat) : (a : Int) + (b : Int) = ((a + b : Nat) : Int) := (Int.natCast_add a b).symm
theorem wrapN (a : Nat) (ha : a < 18446744073709551616) : IntKind.u64.wrap (a : Int) = (a : Int) := by rw [IntKind.wrap_u64]; omega
theorem wrapM (a : Nat) : IntKind.u64.wrap (a : Int) = ((a % 18446744073709551616 : Nat) : Int) := by rw [IntKind.wrap_u64]; omega
end M64
theorem mul64_nat (x y : Nat) (hx : x < 18446744073709551616) (hy : y < 18446744073709551616) (w : World) :
  Calls Tryz.prog 148 #[.int .u64 x, .int .u64 y] w fun e w' => e = .returned (.tuple #[.int .u64 ((x * y / 18446744073709551616 : Nat) : Int), .int .u64 ((x * y % 18446744073709551616 : Nat) : Int)]) ∧ w' = w := by
 obtain ⟨bd, bt, bw, hhi⟩ := Lib.mul64_hi x y hx hy
 have ba := Lib.half_mul_le (a := x / 4294967296) (b := y / 4294967296) (by omega) (by omega)
 have bb := Lib.half_mul_le (a := x / 4294967296) (b := y % 4294967296) (by omega) (by omega)
 have bc := Lib.half_mul_le (a := x % 4294967296) (b := y / 4294967296) (by omega) (by omega)
 have ba' : x / 4294967296 * (y / 4294967296) < 18446744073709551616 := by omega
 have bb' : x / 4294967296 * (y % 4294967296) < 18446744073709551616 := by omega
 have bc' : x % 4294967296 * (y / 4294967296) < 18446744073709551616 := by omega
 have bh1 : x / 4294967296 * (y / 4294967296) + (x / 4294967296 * (y % 4294967296) + x % 4294967296 * (y % 4294967296) / 4294967296) / 4294967296 < 18446744073709551616 := by omega
 have bh : x / 4294967296 * (y / 4294967296) + (x / 4294967296 * (y % 4294967296) + x % 4294967296 * (y % 4294967296) / 4294967296) / 4294967296 + ((x / 4294967296 * (y % 4294967296) + x % 4294967296 * (y % 4294967296) / 4294967296) % 4294967296 + x % 4294967296 * (y / 4294967296)) / 4294967296 < 18446744073709551616 := by omega
 go_enter Tryz.func148, Tryz.ntmps148
 go_wp2
 simp only [M64.maskN x hx, M64.maskN y hy, M64.divN, M64.mulN, M64.addN, M64.wrapN _ bd, M64.wrapN _ bb', M64.wrapN _ bt, M64.maskN _ bt, M64.wrapN _ bc', M64.wrapN _ bw, M64.wrapN _ ba', M64.wrapN _ bh1, M64.wrapN _ bh, M64.wrapM (x * y)]
 rw [hhi]
 go_ret2
 exact ⟨rfl, rfl⟩
theorem mul64_any (x y : Int) (hx : Sm.Wd x) (hy : Sm.Wd y) (w : World) :
  Calls Tryz.prog 148 #[.int .u64 x, .int .u64 y] w fun e w' => e = .returned (.tuple #[.int .u64 (x * y / 18446744073709551616), .int .u64 (x * y % 18446744073709551616)]) ∧ w' = w := by
 obtain ⟨hx0, hx1⟩ := hx
 obtain ⟨hy0, hy1⟩ := hy
 obtain ⟨X, rfl⟩ := Int.eq_ofNat_of_zero_le hx0
 obtain ⟨Y, rfl⟩ := Int.eq_ofNat_of_zero_le hy0
 have := mul64_nat X Y (by omega) (by omega) w
 simp only [Int.natCast_ediv, Int.natCast_emod, Int.natCast_mul] at this
 exact this
theorem add64_run (x y c : Int) (hx : 0 ≤ x) (hy : 0 ≤ y) (hc0 : 0 ≤ c) (hc : c ≤ 1) (w : World) :
  (callFunc 149 #[.int .u64 x, .int .u64 y, .int .u64 c]).run Tryz.prog w =
   .ok (.value (.tuple #[.int .u64 ((x + y + c) % 18446744073709551616), .int .u64 ((x + y + c) / 18446744073709551616)])) w := by
 rw [run_callFunc_extern Tryz.func149 (by kernel_rfl) (by kernel_rfl) (by kernel_rfl) (e := add64Entry) (by kernel_rfl), run_add64 x y c hx hy hc0 hc]
 rfl
def sub64Entry : Array Value → Sem Value := (Extern.MathBitsCarry.rows[1]!).2
theorem run_sub64 {P : Program} (x y c : Int) (hx : Sm.Wd x) (hy : Sm.Wd y) (hc0 : 0 ≤ c) (hc : c ≤ 1) (w : World) :
  (sub64Entry #[.int .u64 x, .int .u64 y, .int .u64 c]).run P w =
   .ok (.tuple #[.int .u64 ((x - y - c) % 18446744073709551616), .int .u64 (-((x - y - c) / 18446744073709551616))]) w := by
 have key : ∀ k : Nat, k ≤ 1 → (sub64Entry #[.int .u64 x, .int .u64 y, .int .u64 (k : Int)]).run P w =
   .ok (Extern.MathBitsCarry.pair ((x.toNat + Extern.MathBitsCarry.m64 - y.toNat - k) % Extern.MathBitsCarry.m64) (if x.toNat < y.toNat + k then 1 else 0)) w := by
  intro k hk
  have : k = 0 ∨ k = 1 := by omega
  rcases this with rfl | rfl <;> rfl
 obtain ⟨k, rfl⟩ := Int.eq_ofNat_of_zero_le hc0
 rw [key k (by omega)]
 unfold Sm.Wd at *
 obtain ⟨X, rfl⟩ := Int.eq_ofNat_of_zero_le hx.1
 obtain ⟨Y, rfl⟩ := Int.eq_ofNat_of_zero_le hy.1
 simp only [Extern.MathBitsCarry.pair, Extern.MathBitsCarry.m64, Int.toNat_natCast]
 have e1 : ((((X + 2 ^ 64 - Y - k) % 2 ^ 64 : Nat)) : Int) = ((X : Int) - Y - k) % 18446744073709551616 := by omega
 have e2 : (((if X < Y + k then 1 else 0 : Nat)) : Int) = -(((X : Int) - Y - k) / 18446744073709551616) := by split <;> omega
 rw [← e1, ← e2]
 rfl
theorem sub64_run (x y c : Int) (hx : Sm.Wd x) (hy : Sm.Wd y) (hc0 : 0 ≤ c) (hc : c ≤ 1) (w : World) :
  (callFunc 150 #[.int .u64 x, .int .u64 y, .int .u64 c]).run Tryz.prog w =
   .ok (.value (.tuple #[.int .u64 ((x - y - c) % 18446744073709551616), .int .u64 (-((x - y - c) / 18446744073709551616))])) w := by
 rw [run_callFunc_extern Tryz.func150 (by kernel_rfl) (by kernel_rfl) (by kernel_rfl) (e := sub64Entry) (by kernel_rfl), run_sub64 x y c hx hy hc0 hc]
 rfl
def lt (n : Int) : Value := .tuple #[.int .u64 (Sm.lim 0 n), .int .u64 (Sm.lim 1 n), .int .u64 (Sm.lim 2 n), .int .u64 (Sm.lim 3 n)]
def Tb (w : World) : Prop :=
 w.cell? ⟨1, 0, none⟩ = some (.int .u64 6346243789798364141) ∧ w.cell? ⟨1, 1, none⟩ = some (.int .u64 1503914060200516822) ∧ w.cell? ⟨1, 2, none⟩ = some (.int .u64 0) ∧ w.cell? ⟨1, 3, none⟩ = some (.int .u64 1152921504606846976) ∧
 w.cell? ⟨1, 4, none⟩ = some (.int .u64 15486807595281847581) ∧ w.cell? ⟨1, 5, none⟩ = some (.int .u64 14334777244411350896) ∧ w.cell? ⟨1, 6, none⟩ = some (.int .u64 18446744073709551614) ∧ w.cell? ⟨1, 7, none⟩ = some (.int .u64 1152921504606846975) ∧
 w.cell? ⟨1, 8, none⟩ = some (.int .u64 11819153939886771969) ∧ w.cell? ⟨1, 9, none⟩ = some (.int .u64 14991950615390032711) ∧ w.cell? ⟨1, 10, none⟩ = some (.int .u64 14910419812499177061) ∧ w.cell? ⟨1, 11, none⟩ = some (.int .u64 259310039853996605)
theorem cell_keep {w w' : World} {b o : Nat} {v : Value} (h : w.cell? ⟨b, o, none⟩ = some v) (hb : Below w.heap.size w w') : w'.cell? ⟨b, o, none⟩ = some v :=
 (hb.cell (p := ⟨b, o, none⟩) (World.block_lt_of_cell? w ⟨b, o, none⟩ h)).trans h
theorem Tb.keep {w w' : World} (h : Tb w) (hb : Below w.heap.size w w') : Tb w' := by
 obtain ⟨h0, h1, h2, h3, h4, h5, h6, h7, h8, h9, h10, h11⟩ := h
 exact ⟨cell_keep h0 hb, cell_keep h1 hb, cell_keep h2 hb, cell_keep h3 hb, cell_keep h4 hb, cell_keep h5 hb, cell_keep h6 hb, cell_keep h7 hb, cell_keep h8 hb, cell_keep h9 hb, cell_keep h10 hb, cell_keep h11 hb⟩
theorem sum_any (a0 a1 a2 a3 b0 b1 b2 b3 : Int) (w : World) (h0 : Sm.Wd a0) (h1 : Sm.Wd a1) (h2 : Sm.Wd a2) (h3 : Sm.Wd a3) (g0 : Sm.Wd b0) (g1 : Sm.Wd b1) (g2 : Sm.Wd b2) (g3 : Sm.Wd b3) :
  Calls Tryz.prog 123 #[.int .u64 a0, .int .u64 a1, .int .u64 a2, .int .u64 a3, .int .u64 b0, .int .u64 b1, .int .u64 b2, .int .u64 b3] w fun e w' => e = .returned (lt (Sm.V a0 a1 a2 a3 + Sm.V b0 b1 b2 b3)) ∧ w' = w := by
 obtain ⟨m0, m1, m2, m3⟩ := Sm.sum_math a0 a1 a2 a3 b0 b1 b2 b3 _ _ _ rfl rfl rfl
 unfold Sm.Wd at *
 have A0 := add64_run a0 b0 0 (by omega) (by omega) (by omega) (by omega)
 have A1 := add64_run a1 b1 ((a0 + b0 + 0) / 18446744073709551616) (by omega) (by omega) (by omega) (by omega)
 have A2 := add64_run a2 b2 ((a1 + b1 + (a0 + b0 + 0) / 18446744073709551616) / 18446744073709551616) (by omega) (by omega) (by omega) (by omega)
 have A3 := add64_run a3 b3 ((a2 + b2 + (a1 + b1 + (a0 + b0 + 0) / 18446744073709551616) / 18446744073709551616) / 18446744073709551616) (by omega) (by omega) (by omega) (by omega)
 rw [m0] at A0
 rw [m1] at A1
 rw [m2] at A2
 rw [m3] at A3
 unfold lt
 clear m0 m1 m2 m3 h0 h1 h2 h3 g0 g1 g2 g3
 generalize Sm.V a0 a1 a2 a3 + Sm.V b0 b1 b2 b3 = n at *
 generalize (a3 + b3 + (a2 + b2 + (a1 + b1 + (a0 + b0 + 0) / 18446744073709551616) / 18446744073709551616) / 18446744073709551616) / 18446744073709551616 = c4 at *
 generalize (a2 + b2 + (a1 + b1 + (a0 + b0 + 0) / 18446744073709551616) / 18446744073709551616) / 18446744073709551616 = c3 at *
 generalize (a1 + b1 + (a0 + b0 + 0) / 18446744073709551616) / 18446744073709551616 = c2 at *
 generalize (a0 + b0 + 0) / 18446744073709551616 = c1 at *
 generalize Sm.lim 0 n = r0 at *
 generalize Sm.lim 1 n = r1 at *
 generalize Sm.lim 2 n = r2 at *
 generalize Sm.lim 3 n = r3 at *
 go_enter Tryz.func123, Tryz.ntmps123
 go_wp2_with fail
 exact bodyPost_ret (v := .tuple #[.int .u64 r0, .int .u64 r1, .int .u64 r2, .int .u64 r3]) (by simp [results, Tryz.results123, go_sem]) rfl ⟨rfl, rfl⟩
theorem step_any (a b c d : Int) (w : World) (ha : Sm.Wd a) (hb : Sm.Wd b) (hc : Sm.Wd c) (hd : Sm.Wd d) :
  Calls Tryz.prog 120 #[.int .u64 a, .int .u64 b, .int .u64 c, .int .u64 d] w fun e w' => e = .returned (.tuple #[.int .u64 ((a * b + c + d) / 18446744073709551616), .int .u64 ((a * b + c + d) % 18446744073709551616)]) ∧ w' = w := by
 have call := mul64_any a b ha hb
 have hq := Sm.mul_le a b ha hb
 have hs := Sm.step_lt a b c d ha hb hc hd
 generalize a * b = p at *
 obtain ⟨m1, m2⟩ := Sm.step_math p c d hq.1 hc hd hs.2
 unfold Sm.Wd at *
 have A1 := add64_run (p % 18446744073709551616) c 0 (by omega) (by omega) (by omega) (by omega)
 have A2 := add64_run (p / 18446744073709551616) 0 ((p % 18446744073709551616 + c + 0) / 18446744073709551616) (by omega) (by omega) (by omega) (by omega)
 have A3 := add64_run ((p % 18446744073709551616 + c + 0) % 18446744073709551616) d 0 (by omega) (by omega) (by omega) (by omega)
 have A4 := add64_run ((p / 18446744073709551616 + 0 + (p % 18446744073709551616 + c + 0) / 18446744073709551616) % 18446744073709551616) 0 (((p % 18446744073709551616 + c + 0) % 18446744073709551616 + d + 0) / 18446744073709551616) (by omega) (by omega) (by omega) (by omega)
 rw [m1] at A3
 rw [m2] at A4
 clear m1 m2 hq hs ha hb hc hd
 generalize (p + c + d) / 18446744073709551616 = hi at *
 generalize (p + c + d) % 18446744073709551616 = lo at *
 generalize (p / 18446744073709551616 + 0 + (p % 18446744073709551616 + c + 0) / 18446744073709551616) % 18446744073709551616 = x1 at *
 generalize ((p % 18446744073709551616 + c + 0) % 18446744073709551616 + d + 0) / 18446744073709551616 = x2 at *
 generalize (p % 18446744073709551616 + c + 0) % 18446744073709551616 = x3 at *
 generalize (p % 18446744073709551616 + c + 0) / 18446744073709551616 = x4 at *
 generalize p / 18446744073709551616 = x5 at *
 generalize p % 18446744073709551616 = x6 at *
 have CALL := Hn call
 clear call
 go_enter Tryz.func120, Tryz.ntmps120
 go_wp2_with fail
 refine (CALL.out _).mono ?_
 rintro e w' ⟨rfl, rfl⟩
 clear CALL
 go_wp2_with fail
 exact bodyPost_ret (v := .tuple #[.int .u64 hi, .int .u64 lo]) (by simp [results, Tryz.results120, go_sem]) rfl ⟨rfl, rfl⟩
end Go.Proofs.YtghcfcglakbkeaaGreatDoor
