import Derived.Test.YtoaobkmddbilhaaDoorSrb
import Derived.Test.YtoaobkmddbilhaaDoorSnum
namespace Go.Proofs.YtoaobkmddbilhaaDoor
open Go.RowKit

/-- half of a number modulo l -/
def hN (n : Int) : Int := (n + n % 2 * Sm.L) / 2
theorem hN_even (n : Int) (h : n % 2 = 0) : hN n = n / 2 := by unfold hN; rw [h]; simp
theorem hN_two (n : Int) : 2 * hN n = n + n % 2 * Sm.L := by
  have hL : Sm.L % 2 = 1 := by decide
  unfold hN
  rcases (show n % 2 = 0 ∨ n % 2 = 1 by omega) with h | h
  · rw [h, Int.zero_mul, Int.add_zero]
    omega
  · rw [h, Int.one_mul]
    generalize Sm.L = l at *
    omega
theorem hN_bd (n : Int) (h0 : 0 ≤ n) (h : n < Sm.L) : 0 ≤ hN n ∧ hN n < Sm.L := by
  have := hN_two n
  rcases (show n % 2 = 0 ∨ n % 2 = 1 by omega) with k | k
  · rw [k, Int.zero_mul, Int.add_zero] at this
    have hL : 0 < Sm.L := by decide
    generalize Sm.L = l at *
    omega
  · rw [k, Int.one_mul] at this
    generalize Sm.L = l at *
    omega
theorem hN_le (n : Int) (h0 : 0 ≤ n) (h : n ≤ Sm.L) : 0 ≤ hN n ∧ hN n ≤ Sm.L := by
  have := hN_two n
  rcases (show n % 2 = 0 ∨ n % 2 = 1 by omega) with k | k
  · rw [k, Int.zero_mul, Int.add_zero] at this
    have hL : 0 < Sm.L := by decide
    generalize Sm.L = l at *
    omega
  · rw [k, Int.one_mul] at this
    generalize Sm.L = l at *
    omega
theorem twice_L (k : Int) (h : 2 * k % Sm.L = 0) : k % Sm.L = 0 := by
  obtain ⟨q, hq⟩ := Int.dvd_of_emod_eq_zero h
  have hL : Sm.L % 2 = 1 := by decide
  have hq2 : q % 2 = 0 := by
    have : (Sm.L * q) % 2 = 0 := by rw [← hq]; omega
    rw [Int.mul_emod, hL, Int.one_mul, Int.emod_emod_of_dvd _ (Int.dvd_refl _)] at this
    exact this
  have e : k = Sm.L * (q / 2) := by
    have h2 : 2 * (Sm.L * (q / 2)) = Sm.L * q := by
      rw [← Int.mul_assoc, Int.mul_comm 2, Int.mul_assoc]
      congr 1
      omega
    omega
  rw [e]
  exact Int.mul_emod_right _ _
theorem L_dvd {k : Int} (h : k % Sm.L = 0) : ∃ q, k = Sm.L * q := Int.dvd_of_emod_eq_zero h
theorem L_mod (q : Int) : Sm.L * q % Sm.L = 0 := Int.mul_emod_right _ _

structure Iv (a u v X Y : Int) : Prop where
  u0 : 0 ≤ u
  v0 : 0 < v
  ul : u ≤ Sm.L
  vl : v ≤ Sm.L
  X0 : 0 ≤ X ∧ X < Sm.L
  Y0 : 0 ≤ Y ∧ Y < Sm.L
  g : ∀ d : Nat, (d : Int) ∣ u → (d : Int) ∣ v → d = 1
  eu : (u - a * X) % Sm.L = 0
  ev : (v - a * Y) % Sm.L = 0
theorem half_law (a u X : Int) (he : u % 2 = 0) (h : (u - a * X) % Sm.L = 0) : (hN u - a * hN X) % Sm.L = 0 := by
  apply twice_L
  obtain ⟨q, hq⟩ := L_dvd h
  have e1 := hN_two u
  have e2 := hN_two X
  rw [he] at e1
  have : 2 * (hN u - a * hN X) = Sm.L * (q - a * (X % 2)) := by
    rw [Int.mul_sub, e1, show 2 * (a * hN X) = a * (2 * hN X) by rw [← Int.mul_assoc, Int.mul_comm 2, Int.mul_assoc], e2, Int.mul_add, Int.mul_sub, ← hq, show a * (X % 2 * Sm.L) = Sm.L * (a * (X % 2)) by rw [← Int.mul_assoc, Int.mul_comm]]
    omega
  rw [this]
  exact L_mod _
theorem Iv.halfu {a u v X Y : Int} (h : Iv a u v X Y) (he : u % 2 = 0) : Iv a (hN u) v (hN X) Y := by
  refine ⟨(hN_le u h.u0 h.ul).1, h.v0, (hN_le u h.u0 h.ul).2, h.vl, hN_bd X h.X0.1 h.X0.2, h.Y0, fun d d1 d2 => h.g d ?_ d2, half_law a u X he h.eu, h.ev⟩
  have : u = hN u * 2 := by rw [hN_even u he]; omega
  rw [this]
  exact Int.dvd_mul_of_dvd_left d1
theorem Iv.halfv {a u v X Y : Int} (h : Iv a u v X Y) (he : v % 2 = 0) : Iv a u (hN v) X (hN Y) := by
  have v0 := h.v0
  refine ⟨h.u0, by rw [hN_even v he]; omega, h.ul, (hN_le v (by omega) h.vl).2, h.X0, hN_bd Y h.Y0.1 h.Y0.2, fun d d1 d2 => h.g d d1 ?_, h.eu, half_law a v Y he h.ev⟩
  have : v = hN v * 2 := by rw [hN_even v he]; omega
  rw [this]
  exact Int.dvd_mul_of_dvd_left d2
theorem sub_law (a u v X Y : Int) (h : (u - a * X) % Sm.L = 0) (k : (v - a * Y) % Sm.L = 0) : (v - u - a * ((Y - X) % Sm.L)) % Sm.L = 0 := by
  obtain ⟨q, hq⟩ := L_dvd h
  obtain ⟨p, hp⟩ := L_dvd k
  have e := Int.emod_add_mul_ediv (Y - X) Sm.L
  have : v - u - a * ((Y - X) % Sm.L) = Sm.L * (p - q + a * ((Y - X) / Sm.L)) := by
    rw [show (Y - X) % Sm.L = Y - X - Sm.L * ((Y - X) / Sm.L) by omega, Int.mul_sub, Int.mul_sub, Int.mul_add, Int.mul_sub, ← hq, ← hp, show a * (Sm.L * ((Y - X) / Sm.L)) = Sm.L * (a * ((Y - X) / Sm.L)) by rw [← Int.mul_assoc, Int.mul_comm a, Int.mul_assoc]]
    omega
  rw [this]
  exact L_mod _
theorem Iv.subv {a u v X Y : Int} (h : Iv a u v X Y) (hl : u < v) : Iv a u (v - u) X ((Y - X) % Sm.L) := by
  have u0 := h.u0
  have vl := h.vl
  refine ⟨u0, by omega, h.ul, by omega, h.X0, mod_bd _, fun d d1 d2 => h.g d d1 ?_, h.eu, sub_law a u v X Y h.eu h.ev⟩
  have := Int.dvd_add d2 d1
  rwa [Int.sub_add_cancel] at this
theorem Iv.subu {a u v X Y : Int} (h : Iv a u v X Y) (hl : ¬ u < v) : Iv a (u - v) v ((X - Y) % Sm.L) Y := by
  have v0 := h.v0
  have ul := h.ul
  refine ⟨by omega, v0, by omega, h.vl, mod_bd _, h.Y0, fun d d1 d2 => h.g d ?_ d2, sub_law a v u Y X h.ev h.eu, h.ev⟩
  have := Int.dvd_add d1 d2
  rwa [Int.sub_add_cancel] at this
theorem Iv.pos {a u v X Y : Int} (h : Iv a u v X Y) (hv : v ≠ 1) : 0 < u := by
  have u0 := h.u0
  have v0 := h.v0
  by_cases hz : u = 0
  · have := h.g v.toNat (by rw [hz]; exact Int.dvd_zero _) (by rw [Int.toNat_of_nonneg (by omega)]; exact Int.dvd_refl _)
    omega
  · omega
theorem dvd_one_nat (d : Nat) (h : (d : Int) ∣ 1) : d = 1 := by
  have := Int.natAbs_dvd_natAbs.2 h
  simpa using this
theorem Iv.start (a : Int) (h0 : 0 < a) (h1 : a < Sm.L) : Iv a a Sm.L 1 0 := by
  refine ⟨by omega, by decide, by omega, Int.le_refl _, by decide, by decide, fun d d1 d2 => ?_, by simp, by simp⟩
  have hne : a % Sm.L ≠ 0 := by rw [Int.emod_eq_of_lt (by omega) h1]; omega
  have k := inv_mul a hne
  have e := Int.emod_add_mul_ediv (a * a ^ 7237005577332262213973186563042994240857116359379907606001950938285454250987) Sm.L
  rw [k] at e
  apply dvd_one_nat
  have : (1 : Int) = a * a ^ 7237005577332262213973186563042994240857116359379907606001950938285454250987 - Sm.L * (a * a ^ 7237005577332262213973186563042994240857116359379907606001950938285454250987 / Sm.L) := by
    generalize a * a ^ 7237005577332262213973186563042994240857116359379907606001950938285454250987 = q at *
    omega
  rw [this]
  exact Int.dvd_sub (Int.dvd_mul_of_dvd_left d1) (Int.dvd_mul_of_dvd_left d2)
theorem inv_one (a X : Int) (ha : a % Sm.L ≠ 0) (h : (1 - a * X) % Sm.L = 0) : lst X = lst (a ^ 7237005577332262213973186563042994240857116359379907606001950938285454250987) := by
  apply lst_congr
  have k := inv_mul a ha
  generalize a ^ 7237005577332262213973186563042994240857116359379907606001950938285454250987 = i at *
  obtain ⟨q, hq⟩ := L_dvd h
  have e := Int.emod_add_mul_ediv (a * i) Sm.L
  rw [k] at e
  have h1 : i - X = Sm.L * (q * i + a * i / Sm.L * X) := by
    have e1 : i * (1 - a * X) = Sm.L * (q * i) := by rw [hq, Int.mul_comm, Int.mul_assoc]
    have e2 : X * (1 + Sm.L * (a * i / Sm.L)) = X * (a * i) := by rw [e]
    rw [Int.mul_sub] at e1
    rw [Int.mul_add] at e2
    have e3 : i * (a * X) = X * (a * i) := by rw [← Int.mul_assoc, Int.mul_comm, Int.mul_comm i]
    have e4 : X * (Sm.L * (a * i / Sm.L)) = Sm.L * (a * i / Sm.L * X) := by rw [Int.mul_comm, Int.mul_assoc]
    rw [Int.mul_add, ← e1, ← e4]
    omega
  have : i = X + Sm.L * (q * i + a * i / Sm.L * X) := by omega
  rw [this, Int.add_mul_emod_self_left]
end Go.Proofs.YtoaobkmddbilhaaDoor
