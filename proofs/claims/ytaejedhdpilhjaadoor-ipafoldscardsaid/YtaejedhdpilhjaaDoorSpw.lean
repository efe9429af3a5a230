import Derived.Test.YtaejedhdpilhjaaDoorScl
import Derived.Lib.BitFns
namespace Go.Proofs.YtaejedhdpilhjaaDoor
open Go.RowKit

theorem b8 : ∀ n : Fin 256, n.val < 2 ^ Lib.bitLen n.val ∧ Lib.bitLen n.val ≤ 8 := by decide +kernel
theorem wrap_small (z : Int) (h0 : 0 ≤ z) (h1 : z ≤ 100) : wrap64 z = z := by unfold wrap64; omega

/-- what Len64 answers: enough bits -/
def lenPost (x : Int) (w : World) (e : Ending) (w' : World) : Prop := ∃ c : Nat, e = .returned (.int .i64 c) ∧ x < 2 ^ c ∧ c ≤ 64 ∧ w' = w
theorem len_close (x b : Int) (k : Nat) (w : World) (v : Int) (hb : x / 2 ^ k = b) (h0 : 0 ≤ b) (h1 : b ≤ 255) (hk : k ≤ 56)
    (hv : v = wrap64 (k + wrap64 (Lib.len8 b))) : lenPost x w (.returned (.int .i64 v)) w := by
  rw [Lib.len8_of b h0 h1] at hv
  obtain ⟨B, rfl⟩ := Int.eq_ofNat_of_zero_le h0
  have h := b8 ⟨B, by omega⟩
  simp only [Int.toNat_natCast] at hv
  generalize Lib.bitLen B = n at *
  rw [wrap_small (n : Int) (by omega) (by omega), wrap_small _ (by omega) (by omega)] at hv
  refine ⟨k + n, by rw [hv]; rfl, ?_, by omega, rfl⟩
  have hp : (0 : Int) < 2 ^ k := Int.pow_pos (by decide)
  have e : x < 2 ^ k * (B + 1) := by
    have := Int.emod_add_mul_ediv x (2 ^ k)
    have := Int.emod_lt_of_pos x hp
    rw [hb] at *
    rw [Int.mul_add]
    omega
  have hB : (B : Int) + 1 ≤ 2 ^ n := by
    have h2 : B + 1 ≤ 2 ^ n := h.1
    have : ((B + 1 : Nat) : Int) ≤ ((2 ^ n : Nat) : Int) := Int.ofNat_le.2 h2
    simpa using this
  rw [Int.pow_add]
  exact Int.lt_of_lt_of_le e (Int.mul_le_mul_of_nonneg_left hB (Int.le_of_lt hp))

set_option maxRecDepth 100000 in
set_option maxHeartbeats 8000000 in
theorem Len64_any (x : Int) (w : World) (hx : Sm.Wd x) : Calls Tryd.prog 48 #[.int .u64 x] w (lenPost x w) := by
  unfold Sm.Wd at hx
  obtain ⟨h0, h1⟩ := hx
  by_cases g0 : 4294967296 ≤ x
  · by_cases g1 : 65536 ≤ x / 4294967296
    · by_cases g2 : 256 ≤ x / 4294967296 / 65536
      · have hb0 : 0 ≤ x / 4294967296 / 65536 / 256 := by omega
        have hb1 : x / 4294967296 / 65536 / 256 ≤ 255 := by omega
        have CL : lenPost x w (.returned (.int .i64 (wrap64 (56 + wrap64 (Lib.len8 (x / 4294967296 / 65536 / 256)))))) w := len_close x (x / 4294967296 / 65536 / 256) 56 w _ (by first | (simp only [Int.reducePow]; done) | (simp only [Int.reducePow]; omega)) hb0 hb1 (by omega) rfl
        have CL2 := hidden CL
        clear CL
        go_enter Tryd.func48, Tryd.ntmps48
        go_wp2_with fail
        go_ret
        exact CL2.out
      · have hb0 : 0 ≤ x / 4294967296 / 65536 := by omega
        have hb1 : x / 4294967296 / 65536 ≤ 255 := by omega
        have CL : lenPost x w (.returned (.int .i64 (wrap64 (48 + wrap64 (Lib.len8 (x / 4294967296 / 65536)))))) w := len_close x (x / 4294967296 / 65536) 48 w _ (by first | (simp only [Int.reducePow]; done) | (simp only [Int.reducePow]; omega)) hb0 hb1 (by omega) rfl
        have CL2 := hidden CL
        clear CL
        go_enter Tryd.func48, Tryd.ntmps48
        go_wp2_with fail
        go_ret
        exact CL2.out
    · by_cases g2 : 256 ≤ x / 4294967296
      · have hb0 : 0 ≤ x / 4294967296 / 256 := by omega
        have hb1 : x / 4294967296 / 256 ≤ 255 := by omega
        have CL : lenPost x w (.returned (.int .i64 (wrap64 (40 + wrap64 (Lib.len8 (x / 4294967296 / 256)))))) w := len_close x (x / 4294967296 / 256) 40 w _ (by first | (simp only [Int.reducePow]; done) | (simp only [Int.reducePow]; omega)) hb0 hb1 (by omega) rfl
        have CL2 := hidden CL
        clear CL
        go_enter Tryd.func48, Tryd.ntmps48
        go_wp2_with fail
        go_ret
        exact CL2.out
      · have hb0 : 0 ≤ x / 4294967296 := by omega
        have hb1 : x / 4294967296 ≤ 255 := by omega
        have CL : lenPost x w (.returned (.int .i64 (wrap64 (32 + wrap64 (Lib.len8 (x / 4294967296)))))) w := len_close x (x / 4294967296) 32 w _ (by first | (simp only [Int.reducePow]; done) | (simp only [Int.reducePow]; omega)) hb0 hb1 (by omega) rfl
        have CL2 := hidden CL
        clear CL
        go_enter Tryd.func48, Tryd.ntmps48
        go_wp2_with fail
        go_ret
        exact CL2.out
  · by_cases g1 : 65536 ≤ x
    · by_cases g2 : 256 ≤ x / 65536
      · have hb0 : 0 ≤ x / 65536 / 256 := by omega
        have hb1 : x / 65536 / 256 ≤ 255 := by omega
        have CL : lenPost x w (.returned (.int .i64 (wrap64 (24 + wrap64 (Lib.len8 (x / 65536 / 256)))))) w := len_close x (x / 65536 / 256) 24 w _ (by first | (simp only [Int.reducePow]; done) | (simp only [Int.reducePow]; omega)) hb0 hb1 (by omega) rfl
        have CL2 := hidden CL
        clear CL
        go_enter Tryd.func48, Tryd.ntmps48
        go_wp2_with fail
        go_ret
        exact CL2.out
      · have hb0 : 0 ≤ x / 65536 := by omega
        have hb1 : x / 65536 ≤ 255 := by omega
        have CL : lenPost x w (.returned (.int .i64 (wrap64 (16 + wrap64 (Lib.len8 (x / 65536)))))) w := len_close x (x / 65536) 16 w _ (by first | (simp only [Int.reducePow]; done) | (simp only [Int.reducePow]; omega)) hb0 hb1 (by omega) rfl
        have CL2 := hidden CL
        clear CL
        go_enter Tryd.func48, Tryd.ntmps48
        go_wp2_with fail
        go_ret
        exact CL2.out
    · by_cases g2 : 256 ≤ x
      · have hb0 : 0 ≤ x / 256 := by omega
        have hb1 : x / 256 ≤ 255 := by omega
        have CL : lenPost x w (.returned (.int .i64 (wrap64 (8 + wrap64 (Lib.len8 (x / 256)))))) w := len_close x (x / 256) 8 w _ (by first | (simp only [Int.reducePow]; done) | (simp only [Int.reducePow]; omega)) hb0 hb1 (by omega) rfl
        have CL2 := hidden CL
        clear CL
        go_enter Tryd.func48, Tryd.ntmps48
        go_wp2_with fail
        go_ret
        exact CL2.out
      · have hb0 : 0 ≤ x := by omega
        have hb1 : x ≤ 255 := by omega
        have CL : lenPost x w (.returned (.int .i64 (wrap64 (wrap64 (Lib.len8 (x)))))) w := len_close x (x) 0 w _ (by simp) hb0 hb1 (by omega) (by simp)
        have CL2 := hidden CL
        clear CL
        go_enter Tryd.func48, Tryd.ntmps48
        go_wp2_with fail
        go_ret
        exact CL2.out

theorem len_nat {E c : Nat} (h : (E : Int) < 2 ^ c) : E < 2 ^ c := by
  have : (E : Int) < ((2 ^ c : Nat) : Int) := by simpa using h
  exact Int.ofNat_lt.1 this
theorem one_pow (n : Nat) : (1 : Int) ^ n = 1 := Int.one_pow


end Go.Proofs.YtaejedhdpilhjaaDoor
