import Derived.Test.YtnbcfchbhappeaaDoorLow
import Derived.Lib.Mul64
import Derived.Laws.Bits64b
import Derived.Laws.Externs
namespace Go.Proofs.YtnbcfchbhappeaaDoor.Fe
open Go.RowKit

namespace M64
theorem maskN (a : Nat) (ha : a < 18446744073709551616) : bits .and .u64 (a : Int) 4294967295 = ((a % 4294967296 : Nat) : Int) := by
  have h := bits_and_u64_nat a 4294967295 ha (by omega)
  have e : a &&& 4294967295 = a % 4294967296 := Nat.and_two_pow_sub_one_eq_mod a 32
  rw [e] at h
  exact h
theorem divN (a : Nat) : (a : Int) / 4294967296 = ((a / 4294967296 : Nat) : Int) := by omega
theorem mulN (a b : Nat) : (a : Int) * (b : Int) = ((a * b : Nat) : Int) := (Int.natCast_mul a b).symm
theorem addN (a b : Nat) : (a : Int) + (b : Int) = ((a + b : Nat) : Int) := (Int.natCast_add a b).symm
theorem wrapN (a : Nat) (ha : a < 18446744073709551616) : IntKind.u64.wrap (a : Int) = (a : Int) := by rw [IntKind.wrap_u64]; omega
theorem wrapM (a : Nat) : IntKind.u64.wrap (a : Int) = ((a % 18446744073709551616 : Nat) : Int) := by rw [IntKind.wrap_u64]; omega
end M64

set_option maxHeartbeats 1000000 in
theorem mul64_nat (x y : Nat) (hx : x < 18446744073709551616) (hy : y < 18446744073709551616) (w : World) :
    Calls Tryd.prog 49 #[.int .u64 x, .int .u64 y] w fun e w' => e = .returned (.tuple #[.int .u64 ((x * y / 18446744073709551616 : Nat) : Int), .int .u64 ((x * y % 18446744073709551616 : Nat) : Int)]) ∧ w' = w := by
  obtain ⟨bd, bt, bw, hhi⟩ := Lib.mul64_hi x y hx hy
  have ba := Lib.half_mul_le (a := x / 4294967296) (b := y / 4294967296) (by omega) (by omega)
  have bb := Lib.half_mul_le (a := x / 4294967296) (b := y % 4294967296) (by omega) (by omega)
  have bc := Lib.half_mul_le (a := x % 4294967296) (b := y / 4294967296) (by omega) (by omega)
  have ba' : x / 4294967296 * (y / 4294967296) < 18446744073709551616 := by omega
  have bb' : x / 4294967296 * (y % 4294967296) < 18446744073709551616 := by omega
  have bc' : x % 4294967296 * (y / 4294967296) < 18446744073709551616 := by omega
  have bh1 : x / 4294967296 * (y / 4294967296) + (x / 4294967296 * (y % 4294967296) + x % 4294967296 * (y % 4294967296) / 4294967296) / 4294967296 < 18446744073709551616 := by omega
  have bh : x / 4294967296 * (y / 4294967296) + (x / 4294967296 * (y % 4294967296) + x % 4294967296 * (y % 4294967296) / 4294967296) / 4294967296 + ((x / 4294967296 * (y % 4294967296) + x % 4294967296 * (y % 4294967296) / 4294967296) % 4294967296 + x % 4294967296 * (y / 4294967296)) / 4294967296 < 18446744073709551616 := by omega
  go_enter Tryd.func49, Tryd.ntmps49
  go_wp2
  simp only [M64.maskN x hx, M64.maskN y hy, M64.divN, M64.mulN, M64.addN, M64.wrapN _ bd, M64.wrapN _ bb', M64.wrapN _ bt, M64.maskN _ bt, M64.wrapN _ bc', M64.wrapN _ bw, M64.wrapN _ ba', M64.wrapN _ bh1, M64.wrapN _ bh, M64.wrapM (x * y)]
  rw [hhi]
  go_ret2
  exact ⟨rfl, rfl⟩

theorem mul64_any (x y : Int) (hx : Fm.Wd x) (hy : Fm.Wd y) (w : World) :
    Calls Tryd.prog 49 #[.int .u64 x, .int .u64 y] w fun e w' => e = .returned (.tuple #[.int .u64 (x * y / 18446744073709551616), .int .u64 (x * y % 18446744073709551616)]) ∧ w' = w := by
  obtain ⟨hx0, hx1⟩ := hx
  obtain ⟨hy0, hy1⟩ := hy
  obtain ⟨X, rfl⟩ := Int.eq_ofNat_of_zero_le hx0
  obtain ⟨Y, rfl⟩ := Int.eq_ofNat_of_zero_le hy0
  have := mul64_nat X Y (by omega) (by omega) w
  simp only [Int.natCast_ediv, Int.natCast_emod, Int.natCast_mul] at this
  exact this

theorem add64_run (x y c : Int) (hx : 0 ≤ x) (hy : 0 ≤ y) (hc0 : 0 ≤ c) (hc : c ≤ 1) (w : World) :
    (callFunc 50 #[.int .u64 x, .int .u64 y, .int .u64 c]).run Tryd.prog w =
      .ok (.value (.tuple #[.int .u64 ((x + y + c) % 18446744073709551616), .int .u64 ((x + y + c) / 18446744073709551616)])) w := by
  rw [run_callFunc_extern Tryd.func50 (by kernel_rfl) (by kernel_rfl) (by kernel_rfl) (e := add64Entry) (by kernel_rfl), run_add64 x y c hx hy hc0 hc]
  rfl

/-- a number of 128 bits -/
def wv (r : Int) : Value := .agg #[.int .u64 (r / 18446744073709551616), .int .u64 (r % 18446744073709551616)]

set_option maxHeartbeats 1000000 in
theorem times_any (a b : Int) (w : World) (ha : Fm.Wd a) (hb : Fm.Wd b) :
    Calls Tryd.prog 33 #[.int .u64 a, .int .u64 b] w fun e w' => e = .returned (wv (a * b)) ∧ Below w.heap.size w w' := by
  have call := mul64_any a b ha hb
  unfold wv
  generalize a * b / 18446744073709551616 = hi at *
  generalize a * b % 18446744073709551616 = lo at *
  have CALL := hidden call
  clear call ha hb
  go_enter Tryd.func33, Tryd.ntmps33
  go_wp2_with fail
  refine (CALL.out _).mono ?_
  rintro e w' ⟨rfl, rfl⟩
  clear CALL
  go_wp2_with fail
  refine bodyPost_ret (v := .agg #[.int .u64 hi, .int .u64 lo]) (by simp [results, Tryd.results33, go_sem]) rfl ⟨rfl, ?_⟩
  exact (Below.refl _ _).alloc (Nat.le_refl _) _

theorem plus_math (r q : Int) (hq0 : 0 ≤ q) (hr0 : 0 ≤ r) (hs : r + q < 340282366920938463463374607431768211456) :
    ((q % 18446744073709551616 + r % 18446744073709551616 + 0) % 18446744073709551616 = (r + q) % 18446744073709551616) ∧
    ((q / 18446744073709551616 + r / 18446744073709551616 + (q % 18446744073709551616 + r % 18446744073709551616 + 0) / 18446744073709551616) % 18446744073709551616 = (r + q) / 18446744073709551616) := by
  omega

set_option maxHeartbeats 1000000 in
theorem plus_any (r a b : Int) (w : World) (hr : 0 ≤ r) (ha : Fm.Wd a) (hb : Fm.Wd b) (hs : r + a * b < 340282366920938463463374607431768211456) :
    Calls Tryd.prog 34 #[wv r, .int .u64 a, .int .u64 b] w fun e w' => e = .returned (wv (r + a * b)) ∧ Below w.heap.size w w' := by
  have call := mul64_any a b ha hb
  have hq0 : 0 ≤ a * b := Int.mul_nonneg ha.1 hb.1
  obtain ⟨m1, m2⟩ := plus_math r (a * b) hq0 hr hs
  unfold wv
  generalize hq : a * b = q at *
  have A1 := add64_run (q % 18446744073709551616) (r % 18446744073709551616) 0 (by omega) (by omega) (by omega) (by omega)
  have A2 := add64_run (q / 18446744073709551616) (r / 18446744073709551616) ((q % 18446744073709551616 + r % 18446744073709551616 + 0) / 18446744073709551616) (by omega) (by omega) (by omega) (by omega)
  rw [m1] at A1
  rw [m2] at A2
  clear m1 m2 hq hs ha hb hr hq0
  generalize (r + q) / 18446744073709551616 = hi at *
  generalize (r + q) % 18446744073709551616 = lo at *
  generalize (q % 18446744073709551616 + r % 18446744073709551616 + 0) / 18446744073709551616 = c at *
  generalize q / 18446744073709551616 = qh at *
  generalize q % 18446744073709551616 = ql at *
  generalize r / 18446744073709551616 = rh at *
  generalize r % 18446744073709551616 = rl at *
  have CALL := hidden call
  clear call
  go_enter Tryd.func34, Tryd.ntmps34
  go_wp2_with fail
  refine (CALL.out _).mono ?_
  rintro e w' ⟨rfl, rfl⟩
  clear CALL
  go_wp2_with fail
  refine bodyPost_ret (v := .agg #[.int .u64 hi, .int .u64 lo]) (by simp [results, Tryd.results34, go_sem]) rfl ⟨rfl, ?_⟩
  exact ((Below.refl _ _).alloc (Nat.le_refl _) _).alloc (by simp) _

theorem limb_math (r : Int) : r % 18446744073709551616 % 2251799813685248 = r % 2251799813685248 := by omega

set_option maxHeartbeats 1000000 in
theorem limb_any (r : Int) (w : World) :
    Calls Tryd.prog 36 #[wv r] w fun e w' => e = .returned (.int .u64 (r % 2251799813685248)) ∧ Below w.heap.size w w' := by
  have k := mask51 (r % 18446744073709551616) (by omega) (by omega)
  have m := limb_math r
  rw [m] at k
  unfold wv
  clear m
  generalize r % 2251799813685248 = x at *
  generalize r % 18446744073709551616 = lo at *
  generalize r / 18446744073709551616 = hi at *
  go_enter Tryd.func36, Tryd.ntmps36
  go_wp2_with fail
  go_ret
  exact ⟨rfl, (Below.refl _ _).alloc (Nat.le_refl _) _⟩

theorem or13 (h l : Int) (h0 : 0 ≤ h) (h1 : h < 2251799813685248) (l0 : 0 ≤ l) (l1 : l < 8192) : bits .or .u64 (h * 8192) l = h * 8192 + l := by
  obtain ⟨H, rfl⟩ := Int.eq_ofNat_of_zero_le h0
  obtain ⟨L, rfl⟩ := Int.eq_ofNat_of_zero_le l0
  have e : (H : Int) * 8192 = ((H * 8192 : Nat) : Int) := by omega
  rw [e, u64_or_nat _ _ (by omega) (by omega)]
  have := Nat.shiftLeft_add_eq_or_of_lt (i := 13) (b := L) (by omega) H
  rw [Nat.shiftLeft_eq] at this
  have e2 : H * 8192 ||| L = H * 8192 + L := this.symm
  rw [e2]; omega

theorem over_math (r : Int) (h1 : r < 20769187434139310514121985316880384) (h0 : 0 ≤ r) : r / 18446744073709551616 * 8192 + r % 18446744073709551616 / 2251799813685248 = r / 2251799813685248 ∧ 0 ≤ r / 18446744073709551616 ∧ r / 18446744073709551616 < 2251799813685248 ∧ 0 ≤ r % 18446744073709551616 ∧ r % 18446744073709551616 ≤ 18446744073709551615 := by omega

set_option maxHeartbeats 1000000 in
theorem over_any (r : Int) (w : World) (h0 : 0 ≤ r) (h1 : r < 20769187434139310514121985316880384) :
    Calls Tryd.prog 37 #[wv r] w fun e w' => e = .returned (.int .u64 (r / 2251799813685248)) ∧ Below w.heap.size w w' := by
  obtain ⟨m, b0, b1, b2, b3⟩ := over_math r h1 h0
  have k := or13 (r / 18446744073709551616) (r % 18446744073709551616 / 2251799813685248) (by omega) (by omega) (by omega) (by omega)
  rw [m] at k
  unfold wv
  clear m h0 h1
  generalize r / 2251799813685248 = x at *
  generalize r % 18446744073709551616 = lo at *
  generalize r / 18446744073709551616 = hi at *
  go_enter Tryd.func37, Tryd.ntmps37
  go_wp2_with fail
  go_ret
  exact ⟨rfl, (Below.refl _ _).alloc (Nat.le_refl _) _⟩
end Go.Proofs.YtnbcfchbhappeaaDoor.Fe
