import Derived.Test.YtglalahmcckjaaaDoorScl
import Derived.Lib.BitFns
namespace Go.Proofs.YtglalahmcckjaaaDoor
open Go.RowKit

theorem b8 : ∀ n : Fin 256, n.val < 2 ^ Lib.bitLen n.val ∧ Lib.bitLen n.val ≤ 8 := by decide +kernel
theorem wrap_small (z : Int) (h0 : 0 ≤ z) (h1 : z ≤ 100) : wrap64 z = z := by unfold wrap64; omega

/-- what Len64 answers: enough bits -/
def lenPost (x : Int) (w : World) (e : Ending) (w' : World) : Prop := ∃ c : Nat, e = .returned (.int .i64 c) ∧ x < 2 ^ c ∧ c ≤ 64 ∧ w' = w
theorem len_close (x b : Int) (k : Nat) (w : World) (v : Int) (hb : x / 2 ^ k = b) (h0 : 0 ≤ b) (h1 : b ≤ 255) (hk : k ≤ 56)
    (hv : v = wrap64 (k + wrap64 (Lib.len8 b))) : lenPost x w (.returned (.int .i64 v)) w := by
  rw [Lib.len8_of b h0 h1] at hv
  obtain ⟨B, rfl⟩ := Int.eq_ofNat_of_zero_le h0
  have h := b8 ⟨B, by omega⟩
  simp only [Int.toNat_natCast] at hv
  generalize Lib.bitLen B = n at *
  rw [wrap_small (n : Int) (by omega) (by omega), wrap_small _ (by omega) (by omega)] at hv
  refine ⟨k + n, by rw [hv]; rfl, ?_, by omega, rfl⟩
  have hp : (0 : Int) < 2 ^ k := Int.pow_pos (by decide)
  have e : x < 2 ^ k * (B + 1) := by
    have := Int.emod_add_mul_ediv x (2 ^ k)
    have := Int.emod_lt_of_pos x hp
    rw [hb] at *
    rw [Int.mul_add]
    omega
  have hB : (B : Int) + 1 ≤ 2 ^ n := by
    have h2 : B + 1 ≤ 2 ^ n := h.1
    have : ((B + 1 : Nat) : Int) ≤ ((2 ^ n : Nat) : Int) := Int.ofNat_le.2 h2
    simpa using this
  rw [Int.pow_add]
  exact Int.lt_of_lt_of_le e (Int.mul_le_mul_of_nonneg_left hB (Int.le_of_lt hp))

set_option maxRecDepth 100000 in
set_option maxHeartbeats 8000000 in
theorem Len64_any (x : Int) (w : World) (hx : Sm.Wd x) : Calls Tryd.prog 34 #[.int .u64 x] w (lenPost x w) := by
  unfold Sm.Wd at hx
  obtain ⟨h0, h1⟩ := hx
  by_cases g0 : 4294967296 ≤ x
  · by_cases g1 : 65536 ≤ x / 4294967296
    · by_cases g2 : 256 ≤ x / 4294967296 / 65536
      · have hb0 : 0 ≤ x / 4294967296 / 65536 / 256 := by omega
        have hb1 : x / 4294967296 / 65536 / 256 ≤ 255 := by omega
        have CL : lenPost x w (.returned (.int .i64 (wrap64 (56 + wrap64 (Lib.len8 (x / 4294967296 / 65536 / 256)))))) w := len_close x (x / 4294967296 / 65536 / 256) 56 w _ (by first | (simp only [Int.reducePow]; done) | (simp only [Int.reducePow]; omega)) hb0 hb1 (by omega) rfl
        have CL2 := hidden CL
        clear CL
        go_enter Tryd.func34, Tryd.ntmps34
        go_wp2_with fail
        go_ret
        exact CL2.out
      · have hb0 : 0 ≤ x / 4294967296 / 65536 := by omega
        have hb1 : x / 4294967296 / 65536 ≤ 255 := by omega
        have CL : lenPost x w (.returned (.int .i64 (wrap64 (48 + wrap64 (Lib.len8 (x / 4294967296 / 65536)))))) w := len_close x (x / 4294967296 / 65536) 48 w _ (by first | (simp only [Int.reducePow]; done) | (simp only [Int.reducePow]; omega)) hb0 hb1 (by omega) rfl
        have CL2 := hidden CL
        clear CL
        go_enter Tryd.func34, Tryd.ntmps34
        go_wp2_with fail
        go_ret
        exact CL2.out
    · by_cases g2 : 256 ≤ x / 4294967296
      · have hb0 : 0 ≤ x / 4294967296 / 256 := by omega
        have hb1 : x / 4294967296 / 256 ≤ 255 := by omega
        have CL : lenPost x w (.returned (.int .i64 (wrap64 (40 + wrap64 (Lib.len8 (x / 4294967296 / 256)))))) w := len_close x (x / 4294967296 / 256) 40 w _ (by first | (simp only [Int.reducePow]; done) | (simp only [Int.reducePow]; omega)) hb0 hb1 (by omega) rfl
        have CL2 := hidden CL
        clear CL
        go_enter Tryd.func34, Tryd.ntmps34
        go_wp2_with fail
        go_ret
        exact CL2.out
      · have hb0 : 0 ≤ x / 4294967296 := by omega
        have hb1 : x / 4294967296 ≤ 255 := by omega
        have CL : lenPost x w (.returned (.int .i64 (wrap64 (32 + wrap64 (Lib.len8 (x / 4294967296)))))) w := len_close x (x / 4294967296) 32 w _ (by first | (simp only [Int.reducePow]; done) | (simp only [Int.reducePow]; omega)) hb0 hb1 (by omega) rfl
        have CL2 := hidden CL
        clear CL
        go_enter Tryd.func34, Tryd.ntmps34
        go_wp2_with fail
        go_ret
        exact CL2.out
  · by_cases g1 : 65536 ≤ x
    · by_cases g2 : 256 ≤ x / 65536
      · have hb0 : 0 ≤ x / 65536 / 256 := by omega
        have hb1 : x / 65536 / 256 ≤ 255 := by omega
        have CL : lenPost x w (.returned (.int .i64 (wrap64 (24 + wrap64 (Lib.len8 (x / 65536 / 256)))))) w := len_close x (x / 65536 / 256) 24 w _ (by first | (simp only [Int.reducePow]; done) | (simp only [Int.reducePow]; omega)) hb0 hb1 (by omega) rfl
        have CL2 := hidden CL
        clear CL
        go_enter Tryd.func34, Tryd.ntmps34
        go_wp2_with fail
        go_ret
        exact CL2.out
      · have hb0 : 0 ≤ x / 65536 := by omega
        have hb1 : x / 65536 ≤ 255 := by omega
        have CL : lenPost x w (.returned (.int .i64 (wrap64 (16 + wrap64 (Lib.len8 (x / 65536)))))) w := len_close x (x / 65536) 16 w _ (by first | (simp only [Int.reducePow]; done) | (simp only [Int.reducePow]; omega)) hb0 hb1 (by omega) rfl
        have CL2 := hidden CL
        clear CL
        go_enter Tryd.func34, Tryd.ntmps34
        go_wp2_with fail
        go_ret
        exact CL2.out
    · by_cases g2 : 256 ≤ x
      · have hb0 : 0 ≤ x / 256 := by omega
        have hb1 : x / 256 ≤ 255 := by omega
        have CL : lenPost x w (.returned (.int .i64 (wrap64 (8 + wrap64 (Lib.len8 (x / 256)))))) w := len_close x (x / 256) 8 w _ (by first | (simp only [Int.reducePow]; done) | (simp only [Int.reducePow]; omega)) hb0 hb1 (by omega) rfl
        have CL2 := hidden CL
        clear CL
        go_enter Tryd.func34, Tryd.ntmps34
        go_wp2_with fail
        go_ret
        exact CL2.out
      · have hb0 : 0 ≤ x := by omega
        have hb1 : x ≤ 255 := by omega
        have CL : lenPost x w (.returned (.int .i64 (wrap64 (wrap64 (Lib.len8 (x)))))) w := len_close x (x) 0 w _ (by simp) hb0 hb1 (by omega) (by simp)
        have CL2 := hidden CL
        clear CL
        go_enter Tryd.func34, Tryd.ntmps34
        go_wp2_with fail
        go_ret
        exact CL2.out

theorem len_nat {E c : Nat} (h : (E : Int) < 2 ^ c) : E < 2 ^ c := by
  have : (E : Int) < ((2 ^ c : Nat) : Int) := by simpa using h
  exact Int.ofNat_lt.1 this
theorem one_pow (n : Nat) : (1 : Int) ^ n = 1 := Int.one_pow

set_option maxRecDepth 100000 in
set_option maxHeartbeats 4000000 in
theorem Power_any (a : E4) (E : Nat) (w : World) (hT : Tb w) (ha : a.ok) (hE : E < 18446744073709551616) :
    Calls Tryd.prog 10 #[a.v, .int .u64 E] w fun e' w' => ∃ r : E4, e' = .returned r.v ∧ r.is (a.n ^ E) ∧ Below w.heap.size w w' := by
  have EN := hidden (fun w T => enter_any a w T ha)
  have LE := hidden (fun w => Len64_any (E : Int) w ⟨by omega, by omega⟩)
  have CL := hidden (fun (u : E4) (c : Nat) hu hlt hle w T => climb_any r1E u 1 a.n E c w T r1_m hu hlt hle)
  have LV := hidden (fun (p : E4) (h : p.ok) (k : p.n < Sm.L) w T => leave_any p w T h k)
  have HT := hidden hT
  obtain ⟨t0, -⟩ := hT
  have hz0 : 0 < w.heap.size := World.block_lt_of_cell? w ⟨0, 0, none⟩ t0
  clear ha hE t0
  simp only [E4.v, r1E] at EN LE CL LV ⊢
  go_enter Tryd.func10, Tryd.ntmps10
  go_upto_region 1 with fail
  have s0 := (St.start w a 25).room 25
  simp only [World.size_alloc] at s0
  have SH := hidden s0
  clear s0
  have KSt : Hid (∀ w' : World, St w [(w.heap.size, a)] [w.heap.size + 1] w' → (fun w' => St w [(w.heap.size, a)] [w.heap.size + 1] w' ∧ w'.cell? ⟨w.heap.size, 0, none⟩ = some (.int .u64 a.x0) ∧ w'.cell? ⟨w.heap.size, 1, none⟩ = some (.int .u64 a.x1) ∧ w'.cell? ⟨w.heap.size, 2, none⟩ = some (.int .u64 a.x2) ∧ w'.cell? ⟨w.heap.size, 3, none⟩ = some (.int .u64 a.x3) ∧ w'.cell? ⟨0, 4, none⟩ = some (.int .u64 15486807595281847581) ∧ w'.cell? ⟨0, 5, none⟩ = some (.int .u64 14334777244411350896) ∧ w'.cell? ⟨0, 6, none⟩ = some (.int .u64 18446744073709551614) ∧ w'.cell? ⟨0, 7, none⟩ = some (.int .u64 1152921504606846975)) w') := hidden (fun w' h => ⟨h, (h.live (w.heap.size, a) (by simp)).c0, (h.live (w.heap.size, a) (by simp)).c1, (h.live (w.heap.size, a) (by simp)).c2, (h.live (w.heap.size, a) (by simp)).c3, (h.tb HT.out).2.2.2.2.1, (h.tb HT.out).2.2.2.2.2.1, (h.tb HT.out).2.2.2.2.2.2.1, (h.tb HT.out).2.2.2.2.2.2.2.1⟩)
  have K0 := hidden (KSt.out _ (SH.out.sub (M := [(w.heap.size, a)]) (by simp)).drew)
  have N1 : Hid (∀ p ∈ [(w.heap.size, a)], w.heap.size + 1 ≠ p.1) := hidden (by simp)
  have KT1 : ∀ (w2 : World) (t : E4), St w [(w.heap.size, a)] [w.heap.size + 1] w2 → (fun w' => St w [(w.heap.size, a)] [w.heap.size + 1] w' ∧ w'.cell? ⟨w.heap.size, 0, none⟩ = some (.int .u64 a.x0) ∧ w'.cell? ⟨w.heap.size, 1, none⟩ = some (.int .u64 a.x1) ∧ w'.cell? ⟨w.heap.size, 2, none⟩ = some (.int .u64 a.x2) ∧ w'.cell? ⟨w.heap.size, 3, none⟩ = some (.int .u64 a.x3) ∧ w'.cell? ⟨0, 4, none⟩ = some (.int .u64 15486807595281847581) ∧ w'.cell? ⟨0, 5, none⟩ = some (.int .u64 14334777244411350896) ∧ w'.cell? ⟨0, 6, none⟩ = some (.int .u64 18446744073709551614) ∧ w'.cell? ⟨0, 7, none⟩ = some (.int .u64 1152921504606846975)) (set4 w2 (w.heap.size + 1) t) := fun w2 t h => KSt.out _ (h.aside N1.out (by omega) t)
  simp only [set4] at KT1
  replace KT1 := hidden KT1
  go_region_held3 (fun w' => St w [(w.heap.size, a)] [w.heap.size + 1] w' ∧ w'.cell? ⟨w.heap.size, 0, none⟩ = some (.int .u64 a.x0) ∧ w'.cell? ⟨w.heap.size, 1, none⟩ = some (.int .u64 a.x1) ∧ w'.cell? ⟨w.heap.size, 2, none⟩ = some (.int .u64 a.x2) ∧ w'.cell? ⟨w.heap.size, 3, none⟩ = some (.int .u64 a.x3) ∧ w'.cell? ⟨0, 4, none⟩ = some (.int .u64 15486807595281847581) ∧ w'.cell? ⟨0, 5, none⟩ = some (.int .u64 14334777244411350896) ∧ w'.cell? ⟨0, 6, none⟩ = some (.int .u64 18446744073709551614) ∧ w'.cell? ⟨0, 7, none⟩ = some (.int .u64 1152921504606846975)) (first | with_reducible exact K0.out | with_reducible exact KC.out | with_reducible exact KD.out | with_reducible exact KA.out | with_reducible exact KT1.out wD t KD.out.1)
    (first | (go_at_call 33; refine (EN.out _ (SH.out.drew.tb HT.out)).mono ?_; rintro e' wA ⟨u, rfl, hu, hbA⟩; have KA := hidden (KSt.out _ ((SH.out.sub (by simp)).drew.keep hbA))) | (go_at_call 34; refine (LE.out _).mono ?_; rintro e' wL ⟨c, rfl, hc1, hc2, rfl⟩) | (go_at_call 32; refine (CL.out u c hu (len_nat hc1) hc2 _ ((SH.out.drew.keep hbA).tb HT.out)).mono ?_; rintro e' wC ⟨p, rfl, hp, hbC⟩; have KC := hidden (KSt.out _ (((SH.out.sub (by simp)).drew.keep hbA).keep hbC))) | (go_at_call 35; refine (LV.out p (E4.is.ok hp) (E4.is.lt hp) _ (((SH.out.drew.keep hbA).keep hbC).tb HT.out)).mono ?_; rintro e' wD ⟨t, rfl, hm, hbD⟩; have sB := ((SH.out.drew.keep hbA).keep hbC).keep hbD; have KD := hidden (KSt.out _ (sB.sub (by simp))); have q0 := (sB.live (w.heap.size + 1, zero4) (by simp)).c0; have q1 := (sB.live (w.heap.size + 1, zero4) (by simp)).c1; have q2 := (sB.live (w.heap.size + 1, zero4) (by simp)).c2; have q3 := (sB.live (w.heap.size + 1, zero4) (by simp)).c3; have f0 := (sB.wrt (w.heap.size + 1) (by simp)).1.f0; have f1 := (sB.wrt (w.heap.size + 1) (by simp)).1.f1; have f2 := (sB.wrt (w.heap.size + 1) (by simp)).1.f2; have f3 := (sB.wrt (w.heap.size + 1) (by simp)).1.f3; clear sB))
  go_wp2_with fail
  refine bodyPost_ret (v := .agg #[.int .u64 t.x0, .int .u64 t.x1, .int .u64 t.x2, .int .u64 t.x3]) (by simp [results, Tryd.results10, go_sem, q0, q1, q2, q3]) rfl ⟨t, rfl, is_of hm ?_, ?_⟩
  · refine (mul_cong (E4.is.m hp) rfl).trans ?_
    rw [one_pow, Int.one_mul]
    exact cancel _
  · with_reducible exact (KT1.out wD t KD.out.1).1.bel

end Go.Proofs.YtglalahmcckjaaaDoor
