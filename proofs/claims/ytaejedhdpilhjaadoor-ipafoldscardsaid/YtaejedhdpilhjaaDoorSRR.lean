import Derived.Test.YtaejedhdpilhjaaDoorSrt
import Derived.Test.YtaejedhdpilhjaaDoorSnum
import Derived.Test.YtaejedhdpilhjaaDoorSse
import Derived.Test.YtaejedhdpilhjaaDoorScl
import Derived.Deep.LoopGhost
namespace Go.Proofs.YtaejedhdpilhjaaDoor
open Go.RowKit

theorem limE_small (N : Int) (h0 : 0 ≤ N) (h : N < Sm.L) : limE N = lst N := by
  unfold limE lst
  rw [Int.emod_eq_of_lt h0 h]
theorem L_big : Sm.L + Sm.L < 115792089237316195423570985008687907853269984665640564039457584007913129639936 := by decide

end Go.Proofs.YtaejedhdpilhjaaDoor
namespace Go.Proofs.YtaejedhdpilhjaaDoor
open Go.RowKit

end Go.Proofs.YtaejedhdpilhjaaDoor
namespace Go.Proofs.YtaejedhdpilhjaaDoor
open Go.RowKit

end Go.Proofs.YtaejedhdpilhjaaDoor
namespace Go.Proofs.YtaejedhdpilhjaaDoor
open Go.RowKit

/-- half of a number modulo l -/
def hN (n : Int) : Int := (n + n % 2 * Sm.L) / 2
theorem hN_even (n : Int) (h : n % 2 = 0) : hN n = n / 2 := by unfold hN; rw [h]; simp
theorem hN_two (n : Int) : 2 * hN n = n + n % 2 * Sm.L := by
  have hL : Sm.L % 2 = 1 := by decide
  unfold hN
  rcases (show n % 2 = 0 ∨ n % 2 = 1 by omega) with h | h
  · rw [h, Int.zero_mul, Int.add_zero]
    omega
  · rw [h, Int.one_mul]
    generalize Sm.L = l at *
    omega
theorem hN_bd (n : Int) (h0 : 0 ≤ n) (h : n < Sm.L) : 0 ≤ hN n ∧ hN n < Sm.L := by
  have := hN_two n
  rcases (show n % 2 = 0 ∨ n % 2 = 1 by omega) with k | k
  · rw [k, Int.zero_mul, Int.add_zero] at this
    have hL : 0 < Sm.L := by decide
    generalize Sm.L = l at *
    omega
  · rw [k, Int.one_mul] at this
    generalize Sm.L = l at *
    omega
theorem hN_le (n : Int) (h0 : 0 ≤ n) (h : n ≤ Sm.L) : 0 ≤ hN n ∧ hN n ≤ Sm.L := by
  have := hN_two n
  rcases (show n % 2 = 0 ∨ n % 2 = 1 by omega) with k | k
  · rw [k, Int.zero_mul, Int.add_zero] at this
    have hL : 0 < Sm.L := by decide
    generalize Sm.L = l at *
    omega
  · rw [k, Int.one_mul] at this
    generalize Sm.L = l at *
    omega
theorem twice_L (k : Int) (h : 2 * k % Sm.L = 0) : k % Sm.L = 0 := by
  obtain ⟨q, hq⟩ := Int.dvd_of_emod_eq_zero h
  have hL : Sm.L % 2 = 1 := by decide
  have hq2 : q % 2 = 0 := by
    have : (Sm.L * q) % 2 = 0 := by rw [← hq]; omega
    rw [Int.mul_emod, hL, Int.one_mul, Int.emod_emod_of_dvd _ (Int.dvd_refl _)] at this
    exact this
  have e : k = Sm.L * (q / 2) := by
    have h2 : 2 * (Sm.L * (q / 2)) = Sm.L * q := by
      rw [← Int.mul_assoc, Int.mul_comm 2, Int.mul_assoc]
      congr 1
      omega
    omega
  rw [e]
  exact Int.mul_emod_right _ _
theorem L_dvd {k : Int} (h : k % Sm.L = 0) : ∃ q, k = Sm.L * q := Int.dvd_of_emod_eq_zero h
theorem L_mod (q : Int) : Sm.L * q % Sm.L = 0 := Int.mul_emod_right _ _

structure Iv (a u v X Y : Int) : Prop where
  u0 : 0 ≤ u
  v0 : 0 < v
  ul : u ≤ Sm.L
  vl : v ≤ Sm.L
  X0 : 0 ≤ X ∧ X < Sm.L
  Y0 : 0 ≤ Y ∧ Y < Sm.L
  g : ∀ d : Nat, (d : Int) ∣ u → (d : Int) ∣ v → d = 1
  eu : (u - a * X) % Sm.L = 0
  ev : (v - a * Y) % Sm.L = 0
theorem half_law (a u X : Int) (he : u % 2 = 0) (h : (u - a * X) % Sm.L = 0) : (hN u - a * hN X) % Sm.L = 0 := by
  apply twice_L
  obtain ⟨q, hq⟩ := L_dvd h
  have e1 := hN_two u
  have e2 := hN_two X
  rw [he] at e1
  have : 2 * (hN u - a * hN X) = Sm.L * (q - a * (X % 2)) := by
    rw [Int.mul_sub, e1, show 2 * (a * hN X) = a * (2 * hN X) by rw [← Int.mul_assoc, Int.mul_comm 2, Int.mul_assoc], e2, Int.mul_add, Int.mul_sub, ← hq, show a * (X % 2 * Sm.L) = Sm.L * (a * (X % 2)) by rw [← Int.mul_assoc, Int.mul_comm]]
    omega
  rw [this]
  exact L_mod _
theorem Iv.halfu {a u v X Y : Int} (h : Iv a u v X Y) (he : u % 2 = 0) : Iv a (hN u) v (hN X) Y := by
  refine ⟨(hN_le u h.u0 h.ul).1, h.v0, (hN_le u h.u0 h.ul).2, h.vl, hN_bd X h.X0.1 h.X0.2, h.Y0, fun d d1 d2 => h.g d ?_ d2, half_law a u X he h.eu, h.ev⟩
  have : u = hN u * 2 := by rw [hN_even u he]; omega
  rw [this]
  exact Int.dvd_mul_of_dvd_left d1
theorem Iv.halfv {a u v X Y : Int} (h : Iv a u v X Y) (he : v % 2 = 0) : Iv a u (hN v) X (hN Y) := by
  have v0 := h.v0
  refine ⟨h.u0, by rw [hN_even v he]; omega, h.ul, (hN_le v (by omega) h.vl).2, h.X0, hN_bd Y h.Y0.1 h.Y0.2, fun d d1 d2 => h.g d d1 ?_, h.eu, half_law a v Y he h.ev⟩
  have : v = hN v * 2 := by rw [hN_even v he]; omega
  rw [this]
  exact Int.dvd_mul_of_dvd_left d2
theorem sub_law (a u v X Y : Int) (h : (u - a * X) % Sm.L = 0) (k : (v - a * Y) % Sm.L = 0) : (v - u - a * ((Y - X) % Sm.L)) % Sm.L = 0 := by
  obtain ⟨q, hq⟩ := L_dvd h
  obtain ⟨p, hp⟩ := L_dvd k
  have e := Int.emod_add_mul_ediv (Y - X) Sm.L
  have : v - u - a * ((Y - X) % Sm.L) = Sm.L * (p - q + a * ((Y - X) / Sm.L)) := by
    rw [show (Y - X) % Sm.L = Y - X - Sm.L * ((Y - X) / Sm.L) by omega, Int.mul_sub, Int.mul_sub, Int.mul_add, Int.mul_sub, ← hq, ← hp, show a * (Sm.L * ((Y - X) / Sm.L)) = Sm.L * (a * ((Y - X) / Sm.L)) by rw [← Int.mul_assoc, Int.mul_comm a, Int.mul_assoc]]
    omega
  rw [this]
  exact L_mod _
theorem Iv.subv {a u v X Y : Int} (h : Iv a u v X Y) (hl : u < v) : Iv a u (v - u) X ((Y - X) % Sm.L) := by
  have u0 := h.u0
  have vl := h.vl
  refine ⟨u0, by omega, h.ul, by omega, h.X0, mod_bd _, fun d d1 d2 => h.g d d1 ?_, h.eu, sub_law a u v X Y h.eu h.ev⟩
  have := Int.dvd_add d2 d1
  rwa [Int.sub_add_cancel] at this
theorem Iv.subu {a u v X Y : Int} (h : Iv a u v X Y) (hl : ¬ u < v) : Iv a (u - v) v ((X - Y) % Sm.L) Y := by
  have v0 := h.v0
  have ul := h.ul
  refine ⟨by omega, v0, by omega, h.vl, mod_bd _, h.Y0, fun d d1 d2 => h.g d ?_ d2, sub_law a v u Y X h.ev h.eu, h.ev⟩
  have := Int.dvd_add d1 d2
  rwa [Int.sub_add_cancel] at this
theorem Iv.pos {a u v X Y : Int} (h : Iv a u v X Y) (hv : v ≠ 1) : 0 < u := by
  have u0 := h.u0
  have v0 := h.v0
  by_cases hz : u = 0
  · have := h.g v.toNat (by rw [hz]; exact Int.dvd_zero _) (by rw [Int.toNat_of_nonneg (by omega)]; exact Int.dvd_refl _)
    omega
  · omega
theorem dvd_one_nat (d : Nat) (h : (d : Int) ∣ 1) : d = 1 := by
  have := Int.natAbs_dvd_natAbs.2 h
  simpa using this
theorem Iv.start (a : Int) (h0 : 0 < a) (h1 : a < Sm.L) : Iv a a Sm.L 1 0 := by
  refine ⟨by omega, by decide, by omega, Int.le_refl _, by decide, by decide, fun d d1 d2 => ?_, by simp, by simp⟩
  have hne : a % Sm.L ≠ 0 := by rw [Int.emod_eq_of_lt (by omega) h1]; omega
  have k := inv_mul a hne
  have e := Int.emod_add_mul_ediv (a * a ^ 7237005577332262213973186563042994240857116359379907606001950938285454250987) Sm.L
  rw [k] at e
  apply dvd_one_nat
  have : (1 : Int) = a * a ^ 7237005577332262213973186563042994240857116359379907606001950938285454250987 - Sm.L * (a * a ^ 7237005577332262213973186563042994240857116359379907606001950938285454250987 / Sm.L) := by
    generalize a * a ^ 7237005577332262213973186563042994240857116359379907606001950938285454250987 = q at *
    omega
  rw [this]
  exact Int.dvd_sub (Int.dvd_mul_of_dvd_left d1) (Int.dvd_mul_of_dvd_left d2)
theorem inv_one (a X : Int) (ha : a % Sm.L ≠ 0) (h : (1 - a * X) % Sm.L = 0) : lst X = lst (a ^ 7237005577332262213973186563042994240857116359379907606001950938285454250987) := by
  apply lst_congr
  have k := inv_mul a ha
  generalize a ^ 7237005577332262213973186563042994240857116359379907606001950938285454250987 = i at *
  obtain ⟨q, hq⟩ := L_dvd h
  have e := Int.emod_add_mul_ediv (a * i) Sm.L
  rw [k] at e
  have h1 : i - X = Sm.L * (q * i + a * i / Sm.L * X) := by
    have e1 : i * (1 - a * X) = Sm.L * (q * i) := by rw [hq, Int.mul_comm, Int.mul_assoc]
    have e2 : X * (1 + Sm.L * (a * i / Sm.L)) = X * (a * i) := by rw [e]
    rw [Int.mul_sub] at e1
    rw [Int.mul_add] at e2
    have e3 : i * (a * X) = X * (a * i) := by rw [← Int.mul_assoc, Int.mul_comm, Int.mul_comm i]
    have e4 : X * (Sm.L * (a * i / Sm.L)) = Sm.L * (a * i / Sm.L * X) := by rw [Int.mul_comm, Int.mul_assoc]
    rw [Int.mul_add, ← e1, ← e4]
    omega
  have : i = X + Sm.L * (q * i + a * i / Sm.L * X) := by omega
  rw [this, Int.add_mul_emod_self_left]
end Go.Proofs.YtaejedhdpilhjaaDoor
namespace Go.Proofs.YtaejedhdpilhjaaDoor
open Go.RowKit

theorem and1h (u : Int) (h0 : 0 ≤ u) (h1 : u ≤ 18446744073709551615) : bits .and .u64 u 1 = u % 2 := by
  rw [u64_and u 1 h0 (by omega) (by omega) (by omega)]
  have : u.toNat &&& (1 : Int).toNat = u.toNat % 2 := Nat.and_two_pow_sub_one_eq_mod u.toNat 1
  rw [this]; omega
theorem half_math (M : Int) (h0 : 0 ≤ M) (h1 : M < 28948022309329048855892746252171976963317496166410141009864396001978282409984) (he : M % 2 = 0) :
    bits .or .u64 (Sm.lim 0 M / 2) (IntKind.u64.wrap (Sm.lim 1 M * 9223372036854775808)) = Sm.lim 0 (M / 2) ∧
    bits .or .u64 (Sm.lim 1 M / 2) (IntKind.u64.wrap (Sm.lim 2 M * 9223372036854775808)) = Sm.lim 1 (M / 2) ∧
    bits .or .u64 (Sm.lim 2 M / 2) (IntKind.u64.wrap (Sm.lim 3 M * 9223372036854775808)) = Sm.lim 2 (M / 2) ∧
    bits .or .u64 (Sm.lim 3 M / 2) 0 = Sm.lim 3 (M / 2) := by
  have e := Sm.V_lim M h0 (by omega)
  have a0 := Sm.lim_wd 0 M
  have a1 := Sm.lim_wd 1 M
  have a2 := Sm.lim_wd 2 M
  have a3 := Sm.lim_wd 3 M
  generalize Sm.lim 0 M = x0 at *
  generalize Sm.lim 1 M = x1 at *
  generalize Sm.lim 2 M = x2 at *
  generalize Sm.lim 3 M = x3 at *
  unfold Sm.Wd at *
  simp only [IntKind.wrap_u64]
  have e1 : x1 * 9223372036854775808 % 18446744073709551616 = (x1 % 2) * 2 ^ 63 := by simp only [Int.reducePow]; omega
  have e2 : x2 * 9223372036854775808 % 18446744073709551616 = (x2 % 2) * 2 ^ 63 := by simp only [Int.reducePow]; omega
  have e3 : x3 * 9223372036854775808 % 18446744073709551616 = (x3 % 2) * 2 ^ 63 := by simp only [Int.reducePow]; omega
  have e4 : (0 : Int) = 0 * 2 ^ 63 := by omega
  rw [e1, e2, e3]
  rw [or_parts 63 _ _ (by omega) (by simp only [Int.reducePow]; omega) (by omega) (by simp only [Int.reducePow]; omega) (by omega), or_parts 63 _ _ (by omega) (by simp only [Int.reducePow]; omega) (by omega) (by simp only [Int.reducePow]; omega) (by omega), or_parts 63 _ _ (by omega) (by simp only [Int.reducePow]; omega) (by omega) (by simp only [Int.reducePow]; omega) (by omega)]
  rw [show bits .or .u64 (x3 / 2) 0 = x3 / 2 + 0 * 2 ^ 63 from or_parts 63 0 _ (by omega) (by simp only [Int.reducePow]; omega) (by omega) (by omega) (by omega)]
  simp only [Int.reducePow]
  unfold Sm.V at e
  refine Sm.lim_of _ _ _ _ _ 0 ?_ ?_ ?_ ?_ ?_
  · unfold Sm.Wd; omega
  · unfold Sm.Wd; omega
  · unfold Sm.Wd; omega
  · unfold Sm.Wd; omega
  · unfold Sm.V; omega
def hk4 (s h : E4) : Nat → E4
  | 0 => s
  | 1 => ⟨h.x0, s.x1, s.x2, s.x3⟩
  | 2 => ⟨h.x0, h.x1, s.x2, s.x3⟩
  | _ => ⟨h.x0, h.x1, h.x2, s.x3⟩
theorem limE_low (n : Int) : (limE n).x0 % 2 = n % 2 := by
  show Sm.lim 0 n % 2 = n % 2
  unfold Sm.lim
  simp
  try omega

end Go.Proofs.YtaejedhdpilhjaaDoor
namespace Go.Proofs.YtaejedhdpilhjaaDoor
open Go.RowKit

/-- the halves of the limbs -/
def hv (a : E4) (j : Nat) : Int := if j % 2 = 0 then a.get (j / 2) % 4294967296 else a.get (j / 2) / 4294967296
theorem hv_even (a : E4) (k : Nat) : hv a (2 * k) = a.get k % 4294967296 := by
  unfold hv
  rw [if_pos (by omega), show 2 * k / 2 = k by omega]
theorem hv_odd (a : E4) (k : Nat) : hv a (2 * k + 1) = a.get k / 4294967296 := by
  unfold hv
  rw [if_neg (by omega), show (2 * k + 1) / 2 = k by omega]
theorem hv_bd (a : E4) (h : a.ok) (j : Nat) : 0 ≤ hv a j ∧ hv a j < 4294967296 := by
  have hw := E4.get_wd h (j / 2)
  unfold Sm.Wd at hw
  unfold hv
  split <;> omega
theorem hv_sum (a : E4) : hv a 0 + hv a 1 * 4294967296 + (hv a 2 + hv a 3 * 4294967296) * 18446744073709551616 + (hv a 4 + hv a 5 * 4294967296) * 340282366920938463463374607431768211456 + (hv a 6 + hv a 7 * 4294967296) * 6277101735386680763835789423207666416102355444464034512896 = a.n := by
  simp only [hv, Nat.reduceMod, Nat.reduceDiv, E4.get, E4.n, Sm.V]
  simp
  omega

structure HvW (w0 : World) (a : E4) (m : Nat) (w : World) : Prop where
  av : Blc w w0.heap.size a
  bt : ∀ j, j < 8 → w.cell? ⟨w0.heap.size + 1 + 1, j, none⟩ = some (.int .u64 (if j < m then hv a j else 0))
  fr : ∀ j, j < 8 → w.frozen? ⟨w0.heap.size + 1 + 1, j, none⟩ = false
  rs : ∀ j, j < 8 → w.cell? ⟨w0.heap.size + 1, j, none⟩ = some (.int .u64 0)
  rf : ∀ j, j < 8 → w.frozen? ⟨w0.heap.size + 1, j, none⟩ = false
  bel : Below w0.heap.size w0 w
theorem HvW.step {w0 : World} {a : E4} {m : Nat} {w : World} (h : HvW w0 a m w) (hm : m < 8) : HvW w0 a (m + 1) (w.setCell ⟨w0.heap.size + 1 + 1, m, none⟩ (.int .u64 (hv a m))) := by
  refine ⟨h.av.far1 (by omega) _ _, fun j hj => ?_, fun j hj => by have := h.fr j hj; go_simp, fun j hj => (World.cell?_setCell_far w _ _ _ (by show w0.heap.size + 1 + 1 ≠ w0.heap.size + 1; omega)).trans (h.rs j hj), fun j hj => by have := h.rf j hj; go_simp, h.bel.setCell (by show w0.heap.size ≤ w0.heap.size + 1 + 1; omega) _⟩
  by_cases hjk : j = m
  · subst hjk
    have hb := h.bt j hj
    rw [if_pos (by omega)]
    go_simp
  · rw [World.cell?_setCell_other w _ _ _ (by intro e; exact hjk (congrArg Addr.off e).symm), h.bt j hj]
    by_cases hlt : j < m
    · rw [if_pos hlt, if_pos (by omega)]
    · rw [if_neg hlt, if_neg (by omega)]

end Go.Proofs.YtaejedhdpilhjaaDoor
namespace Go.Proofs.YtaejedhdpilhjaaDoor
open Go.RowKit

/-- the number of pieces of 32 bits -/
def nv (f : Nat → Int) : Nat → Int
  | 0 => 0
  | m + 1 => nv f m + f m * 4294967296 ^ m
theorem nv_succ (f : Nat → Int) (m : Nat) : nv f (m + 1) = nv f m + f m * 4294967296 ^ m := rfl
def upd (f : Nat → Int) (j : Nat) (v : Int) (i : Nat) : Int := if i = j then v else f i
theorem upd_at (f : Nat → Int) (j : Nat) (v : Int) : upd f j v j = v := if_pos rfl
theorem upd_ne (f : Nat → Int) (j : Nat) (v : Int) {i : Nat} (h : i ≠ j) : upd f j v i = f i := if_neg h
theorem nv_out (f : Nat → Int) (j : Nat) (v : Int) (m : Nat) (h : m ≤ j) : nv (upd f j v) m = nv f m := by
  induction m with
  | zero => rfl
  | succ m ih => rw [nv, nv, ih (by omega), upd_ne f j v (by omega)]
theorem nv_upd (f : Nat → Int) (j : Nat) (v : Int) (m : Nat) (h : j < m) : nv (upd f j v) m = nv f m + (v - f j) * 4294967296 ^ j := by
  induction m with
  | zero => omega
  | succ m ih =>
    rw [nv, nv]
    by_cases hj : j = m
    · subst hj
      rw [nv_out f j v j (Nat.le_refl _), upd_at, Int.sub_mul]
      omega
    · rw [ih (by omega), upd_ne f j v (by omega)]
      omega
theorem nv_zero (m : Nat) : nv (fun _ => 0) m = 0 := by
  induction m with
  | zero => rfl
  | succ m ih => rw [nv, ih]; omega
theorem nv_hv (a : E4) : nv (hv a) 8 = a.n := by
  rw [← hv_sum]
  simp only [nv]
  generalize hv a 0 = h0
  generalize hv a 1 = h1
  generalize hv a 2 = h2
  generalize hv a 3 = h3
  generalize hv a 4 = h4
  generalize hv a 5 = h5
  generalize hv a 6 = h6
  generalize hv a 7 = h7
  omega
/-- the number from the top -/
def tv (f : Nat → Int) : Nat → Int
  | 0 => 0
  | d + 1 => f (15 - d) + 4294967296 * tv f d
theorem tv_nv (f : Nat → Int) : tv f 16 = nv f 16 := by
  simp only [nv, tv, Nat.reduceSub]
  generalize f 0 = f0
  generalize f 1 = f1
  generalize f 2 = f2
  generalize f 3 = f3
  generalize f 4 = f4
  generalize f 5 = f5
  generalize f 6 = f6
  generalize f 7 = f7
  generalize f 8 = f8
  generalize f 9 = f9
  generalize f 10 = f10
  generalize f 11 = f11
  generalize f 12 = f12
  generalize f 13 = f13
  generalize f 14 = f14
  generalize f 15 = f15
  omega

/-- a product that is being made: the outer loop at i -/
structure Mo (x y P : Nat → Int) (i : Nat) : Prop where
  s : nv P 16 = nv x i * nv y 8
  b : ∀ j, 0 ≤ P j ∧ P j < 4294967296
  z : ∀ j, i + 8 ≤ j → P j = 0
/-- the inner loop at k, with a carry -/
structure Mi (x y P : Nat → Int) (c : Int) (i k : Nat) : Prop where
  s : nv P 16 + c * 4294967296 ^ (i + k) = nv x i * nv y 8 + x i * nv y k * 4294967296 ^ i
  b : ∀ j, 0 ≤ P j ∧ P j < 4294967296
  z : ∀ j, i + 8 ≤ j → P j = 0
  c0 : 0 ≤ c
  c1 : c < 4294967296
theorem Mo.start (x y : Nat → Int) : Mo x y (fun _ => 0) 0 := ⟨by rw [nv_zero]; simp [nv], fun _ => by omega, fun _ _ => rfl⟩
theorem Mo.inner {x y P : Nat → Int} {i : Nat} (h : Mo x y P i) : Mi x y P 0 i 0 := ⟨by rw [h.s]; simp [nv], h.b, h.z, by omega, by omega⟩
/-- what is added at one place -/
def mt (x y P : Nat → Int) (c : Int) (i k : Nat) : Int := x i * y k + P (i + k) + c
theorem Mi.bd {x y P : Nat → Int} {c : Int} {i k : Nat} (h : Mi x y P c i k) (hx : 0 ≤ x i ∧ x i < 4294967296) (hy : 0 ≤ y k ∧ y k < 4294967296) :
    0 ≤ x i * y k ∧ x i * y k ≤ 18446744065119617025 ∧ 0 ≤ mt x y P c i k ∧ mt x y P c i k < 18446744073709551616 := by
  have p0 := Int.mul_nonneg hx.1 hy.1
  have p1 : x i * y k ≤ 4294967295 * 4294967295 := Int.mul_le_mul (by omega) (by omega) hy.1 (by omega)
  have := h.b (i + k)
  have := h.c0
  have := h.c1
  unfold mt
  omega
theorem Mi.next {x y P : Nat → Int} {c : Int} {i k : Nat} (h : Mi x y P c i k) (hi : i < 8) (hk : k < 8) (hx : 0 ≤ x i ∧ x i < 4294967296) (hy : 0 ≤ y k ∧ y k < 4294967296) :
    Mi x y (upd P (i + k) (mt x y P c i k % 4294967296)) (mt x y P c i k / 4294967296) i (k + 1) := by
  have hb := h.bd hx hy
  refine ⟨?_, fun j => ?_, fun j hj => ?_, ?_, ?_⟩
  · rw [nv_upd _ _ _ _ (by omega), nv_succ y k, show i + (k + 1) = i + k + 1 by omega, Int.pow_succ 4294967296 (i + k)]
    have e : mt x y P c i k = 4294967296 * (mt x y P c i k / 4294967296) + mt x y P c i k % 4294967296 := by omega
    have e2 : (mt x y P c i k % 4294967296 - P (i + k)) * 4294967296 ^ (i + k) + mt x y P c i k / 4294967296 * (4294967296 ^ (i + k) * 4294967296) = (x i * y k + c) * 4294967296 ^ (i + k) := by
      have : mt x y P c i k % 4294967296 = x i * y k + P (i + k) + c - 4294967296 * (mt x y P c i k / 4294967296) := by
        have u : mt x y P c i k = x i * y k + P (i + k) + c := rfl
        omega
      rw [this]
      generalize mt x y P c i k / 4294967296 = q
      generalize (4294967296 : Int) ^ (i + k) = Q
      generalize x i * y k = m
      generalize P (i + k) = p
      rw [show m + p + c - 4294967296 * q - p = m + c - 4294967296 * q by omega, Int.sub_mul, show q * (Q * 4294967296) = 4294967296 * q * Q by rw [Int.mul_comm Q, ← Int.mul_assoc, Int.mul_comm q]]
      omega
    rw [Int.add_assoc, e2, Int.mul_add, Int.add_mul (x i * nv y k), ← Int.add_assoc (nv x i * nv y 8), ← h.s, Int.add_mul, show x i * (y k * 4294967296 ^ k) * 4294967296 ^ i = x i * y k * 4294967296 ^ (i + k) by rw [Int.pow_add, ← Int.mul_assoc, Int.mul_assoc (x i * y k), Int.mul_comm (4294967296 ^ k)]]
    omega
  · by_cases hj : j = i + k
    · subst hj
      rw [upd_at]
      omega
    · rw [upd_ne _ _ _ hj]
      exact h.b j
  · rw [upd_ne _ _ _ (by omega)]
    exact h.z j hj
  · omega
  · omega
theorem Mi.close {x y P : Nat → Int} {c : Int} {i : Nat} (h : Mi x y P c i 8) (hi : i < 8) : Mo x y (upd P (i + 8) c) (i + 1) := by
  refine ⟨?_, fun j => ?_, fun j hj => ?_⟩
  · rw [nv_upd _ _ _ _ (by omega), h.z (i + 8) (by omega), Int.sub_zero, h.s, nv_succ x i, Int.add_mul, Int.mul_assoc (x i), Int.mul_comm (nv y 8), Int.mul_assoc (x i)]
  · by_cases hj : j = i + 8
    · subst hj
      rw [upd_at]
      exact ⟨h.c0, h.c1⟩
    · rw [upd_ne _ _ _ hj]
      exact h.b j
  · rw [upd_ne _ _ _ (by omega)]
    exact h.z j (by omega)
theorem Mo.all {a b : E4} {P : Nat → Int} (h : Mo (hv a) (hv b) P 8) : tv P 16 = a.n * b.n := by
  rw [tv_nv, h.s, nv_hv, nv_hv]
theorem tv_next {f : Nat → Int} {d : Nat} {r s t : E4} (hr : r.is (tv f d)) (hs : s.is (65536 * r.n + f (15 - d) / 65536)) (ht : t.is (65536 * s.n + f (15 - d) % 65536)) : t.is (tv f (d + 1)) := by
  refine is_of ht ?_
  have e1 : (65536 * s.n + f (15 - d) % 65536) % Sm.L = (65536 * (65536 * r.n + f (15 - d) / 65536) + f (15 - d) % 65536) % Sm.L := by
    rw [Int.add_emod, Int.mul_emod, hs.m, ← Int.mul_emod, ← Int.add_emod]
  rw [e1, show 65536 * (65536 * r.n + f (15 - d) / 65536) + f (15 - d) % 65536 = f (15 - d) + 4294967296 * r.n by omega, tv, Int.add_emod, Int.mul_emod, hr.m, ← Int.mul_emod, ← Int.add_emod]

/-- a row of cells -/
structure Rw (w : World) (b n : Nat) (f : Nat → Int) : Prop where
  c : ∀ j, j < n → w.cell? ⟨b, j, none⟩ = some (.int .u64 (f j))
  fr : ∀ j, j < n → w.frozen? ⟨b, j, none⟩ = false
theorem Rw.lt {w : World} {b n : Nat} {f : Nat → Int} (h : Rw w b n f) (hn : 0 < n) : b < w.heap.size := World.block_lt_of_cell? w ⟨b, 0, none⟩ (h.c 0 hn)
theorem Rw.keep {w1 w2 : World} {b n : Nat} {f : Nat → Int} (h : Rw w1 b n f) (hn : 0 < n) (hb : Below w1.heap.size w1 w2) : Rw w2 b n f :=
  ⟨fun j hj => cell_keep (h.c j hj) hb, fun j hj => ((bcell hb).2 _ _ (h.lt hn)).trans (h.fr j hj)⟩
theorem Rw.drew {w : World} {b n : Nat} {f : Nat → Int} (h : Rw w b n f) (hn : 0 < n) : Rw w.drew b n f := h.keep hn ((Below.refl _ _).drew)
theorem Rw.far {w : World} {b n : Nat} {f : Nat → Int} (h : Rw w b n f) {c : Nat} (hne : c ≠ b) (k : Nat) (v : Value) : Rw (w.setCell ⟨c, k, none⟩ v) b n f :=
  ⟨fun j hj => (World.cell?_setCell_far w _ _ _ hne).trans (h.c j hj), fun j hj => by have := h.fr j hj; go_simp⟩
theorem Rw.far4 {w : World} {b n : Nat} {f : Nat → Int} (h : Rw w b n f) {c : Nat} (hne : c ≠ b) (s : E4) : Rw (set4 w c s) b n f :=
  (((h.far hne 0 _).far hne 1 _).far hne 2 _).far hne 3 _
theorem Rw.at {w : World} {b n : Nat} {f : Nat → Int} (h : Rw w b n f) (k : Nat) (hk : k < n) (v : Int) : Rw (w.setCell ⟨b, k, none⟩ (.int .u64 v)) b n (upd f k v) := by
  refine ⟨fun j hj => ?_, fun j hj => by have := h.fr j hj; go_simp⟩
  by_cases hjk : j = k
  · subst hjk
    have hb := h.c j hj
    rw [upd_at]
    go_simp
  · rw [World.cell?_setCell_other w _ _ _ (by intro e; exact hjk (congrArg Addr.off e).symm), h.c j hj, upd_ne _ _ _ hjk]
end Go.Proofs.YtaejedhdpilhjaaDoor
namespace Go.Proofs.YtaejedhdpilhjaaDoor
open Go.RowKit

theorem St.aside1 {w0 : World} {L : List (Nat × E4)} {R : List Nat} {w1 : World} {b : Nat} (h : St w0 L R w1) (hn : ∀ p ∈ L, b ≠ p.1) (h0 : w0.heap.size ≤ b) (k : Nat) (v : Value) : St w0 L R (w1.setCell ⟨b, k, none⟩ v) :=
  ⟨fun p hp => (h.live p hp).far1 (hn p hp) _ _, fun c hc => ⟨(h.wrt c hc).1.put _ _ _, by simpa using (h.wrt c hc).2⟩, h.bel.setCell h0 _⟩
theorem Rw.new (w : World) (n : Nat) (f : Nat → Int) (xs : Array Value) (t : TypeId) (h : ∀ j, j < n → xs[j]? = some (.int .u64 (f j))) : Rw (w.alloc (.cells xs t)) w.heap.size n f := by
  refine ⟨fun j hj => ?_, fun j hj => ?_⟩
  · have := h j hj
    go_simp
  · go_simp
theorem and16m (u : Int) (h0 : 0 ≤ u) (h1 : u ≤ 18446744073709551615) : bits .and .u64 u 65535 = u % 65536 := by
  rw [u64_and u 65535 h0 (by omega) (by omega) (by omega)]
  have : u.toNat &&& (65535 : Int).toNat = u.toNat % 65536 := Nat.and_two_pow_sub_one_eq_mod u.toNat 16
  rw [this]; omega
structure MuW (w0 : World) (bx bb bp : Nat) (x y P : Nat → Int) (w : World) : Prop where
  st : St w0 [(w0.heap.size + 1 + 1, zero4)] [w0.heap.size + 1 + 1] w
  xr : Rw w bx 8 x
  yr : Rw w bb 8 y
  pr : Rw w bp 16 P
  n1 : bp ≠ bx
  n2 : bp ≠ bb
  n3 : w0.heap.size + 1 + 1 < bp
theorem MuW.drew {w0 : World} {bx bb bp : Nat} {x y P : Nat → Int} {w : World} (h : MuW w0 bx bb bp x y P w) : MuW w0 bx bb bp x y P w.drew :=
  ⟨h.st.drew, h.xr.drew (by omega), h.yr.drew (by omega), h.pr.drew (by omega), h.n1, h.n2, h.n3⟩
theorem MuW.put {w0 : World} {bx bb bp : Nat} {x y P : Nat → Int} {w : World} (h : MuW w0 bx bb bp x y P w) (k : Nat) (hk : k < 16) (v : Int) : MuW w0 bx bb bp x y (upd P k v) (w.setCell ⟨bp, k, none⟩ (.int .u64 v)) := by
  have n3 := h.n3
  exact ⟨h.st.aside1 (by intro p hp; rw [List.mem_singleton] at hp; subst hp; show bp ≠ w0.heap.size + 1 + 1; omega) (by omega) k _, h.xr.far h.n1 k _, h.yr.far h.n2 k _, h.pr.at k hk v, h.n1, h.n2, h.n3⟩

end Go.Proofs.YtaejedhdpilhjaaDoor
namespace Go.Proofs.YtaejedhdpilhjaaDoor
open Go.RowKit

theorem pow_even (n : Int) (E k : Nat) (h : E / 2 ^ k % 2 = 0) : n ^ (E / 2 ^ k) = n ^ (E / 2 ^ (k + 1)) * n ^ (E / 2 ^ (k + 1)) := by
  rw [← Int.pow_add]
  congr 1
  rw [Nat.pow_succ, ← Nat.div_div_eq_div_mul]
  omega
theorem pow_odd (n : Int) (E k : Nat) (h : E / 2 ^ k % 2 = 1) : n ^ (E / 2 ^ k) = n ^ (E / 2 ^ (k + 1)) * n ^ (E / 2 ^ (k + 1)) * n := by
  rw [← Int.pow_add, ← Int.pow_succ]
  congr 1
  rw [Nat.pow_succ, ← Nat.div_div_eq_div_mul]
  omega
theorem is_mul {r s t : E4} {x y : Int} (hr : r.is x) (hs : s.is y) (h : t.is (r.n * s.n)) : t.is (x * y) := is_of h (mul_cong hr.m hs.m)


end Go.Proofs.YtaejedhdpilhjaaDoor
namespace Go.Proofs.YtaejedhdpilhjaaDoor
open Go.RowKit

theorem lst_limE (n : Int) : lst n = limE (n % Sm.L) := rfl
theorem limE_lstX {X : Int} (h : 0 ≤ X ∧ X < Sm.L) : limE X = lst X := limE_small X h.1 h.2
theorem L_256 : Sm.L < 115792089237316195423570985008687907853269984665640564039457584007913129639936 := by decide
theorem limE_in {n : Int} (h0 : 0 ≤ n) (h1 : n ≤ Sm.L) : (limE n).n = n := limE_n n h0 (by have := L_256; omega)
theorem same_one {u : Int} (u0 : 0 ≤ u) (ul : u ≤ Sm.L) : (limE u).same k1 = decide (u = 1) := by
  rw [Bool.eq_iff_iff, E4.same_iff, decide_eq_true_iff]
  constructor
  · intro h
    have := congrArg E4.n h
    rw [limE_in u0 ul, k1n] at this
    exact this
  · rintro rfl
    rw [limE_lstX ⟨by decide, by decide⟩, lst1]
theorem low_in (u : Int) : bits .and .u64 (limE u).x0 1 = u % 2 := by
  have := (limE_ok u).1
  unfold Sm.Wd at this
  rw [and1h _ this.1 (by omega), limE_low]

end Go.Proofs.YtaejedhdpilhjaaDoor
