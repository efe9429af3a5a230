import Derived.Test.YtaejedhdpilhjaaDoorSop
namespace Go.Proofs.YtaejedhdpilhjaaDoor
open Go.RowKit

theorem pow_emod (a b : Int) (k : Nat) (h : a % Sm.L = b % Sm.L) : a ^ k % Sm.L = b ^ k % Sm.L := by
  induction k with
  | zero => rw [Int.pow_zero, Int.pow_zero]
  | succ k ih => rw [Int.pow_succ, Int.pow_succ]; exact mul_cong ih h

/-- the product of two Montgomery's forms is Montgomery's form of the product -/
theorem mont_mul {r s t : E4} {y z : Int} (hr : r.is (y * R)) (hs : s.is (z * R)) (ht : t.is (r.n * s.n * Ri)) : t.is (y * z * R) := by
  refine is_of ht ?_
  refine (mul_cong (mul_cong hr.m hs.m) rfl).trans ?_
  rw [show y * R * (z * R) * Ri = y * z * R * R * Ri by grind]
  exact cancel (y * z * R)

/-- what climb has after i rounds: the exponent's upper i bits of c -/
def clim (y z : Int) (e c i : Nat) : Int := y ^ (2 ^ i) * z ^ (e / 2 ^ (c - i))
theorem clim_start (y z : Int) (e c : Nat) (h : e < 2 ^ c) : clim y z e c 0 = y := by
  unfold clim
  rw [Nat.sub_zero, Nat.div_eq_of_lt h]
  simp [Int.pow_succ]
theorem clim_end (y z : Int) (e c : Nat) : clim y z e c c = y ^ (2 ^ c) * z ^ e := by
  unfold clim
  simp
theorem clim_next (y z : Int) (e c i : Nat) (hi : i < c) (b : Nat) (hb : e / 2 ^ (c - 1 - i) % 2 = b) : clim y z e c i * clim y z e c i * z ^ b = clim y z e c (i + 1) := by
  unfold clim
  have e1 : c - i = c - 1 - i + 1 := by omega
  have e2 : c - (i + 1) = c - 1 - i := by omega
  rw [e1, e2]
  have e3 : e / 2 ^ (c - 1 - i) = e / 2 ^ (c - 1 - i + 1) + e / 2 ^ (c - 1 - i + 1) + b := by
    rw [Nat.pow_succ, ← Nat.div_div_eq_div_mul]; omega
  have e4 : y ^ 2 ^ (i + 1) = y ^ 2 ^ i * y ^ 2 ^ i := by
    rw [← Int.pow_add]; congr 1; rw [Nat.pow_succ]; omega
  rw [e3, Int.pow_add, Int.pow_add, e4]
  grind

theorem and1_u64 (y : Int) (h0 : 0 ≤ y) (h1 : y ≤ 18446744073709551615) : (bits .and .u64 y 1 == 1) = decide (y % 2 = 1) := by
  have e : bits .and .u64 y 1 = y % 2 := by
    rw [u64_and y 1 h0 (by omega) (by omega) (by omega)]
    have : y.toNat &&& (1 : Int).toNat = y.toNat % 2 := Nat.and_two_pow_sub_one_eq_mod y.toNat 1
    rw [this]; omega
  rw [e, Bool.eq_iff_iff]
  simp

set_option maxRecDepth 100000 in
set_option maxHeartbeats 4000000 in
theorem climb_any (p x : E4) (y z : Int) (e c : Nat) (w : World) (hT : Tb w) (hp : p.is (y * R)) (hx : x.is (z * R)) (he : e < 2 ^ c) (hc : c ≤ 64) :
    Calls Tryd.prog 30 #[p.v, x.v, .int .u64 e, .int .i64 c] w fun e' w' => ∃ r : E4, e' = .returned r.v ∧ r.is (y ^ (2 ^ c) * z ^ e * R) ∧ Below w.heap.size w w' := by
  have MO := hidden (fun (r s : E4) (h : r.ok) (k : s.ok) (l : s.n < Sm.L) w T => montgomery_any r s w T h k l)
  have HP := hidden hp
  have HX := hidden hx
  have HT := hidden hT
  have HE := hidden he
  have heb : e < 18446744073709551616 := Nat.lt_of_lt_of_le he (Nat.le_trans (Nat.pow_le_pow_right (by decide) hc) (by decide))
  have HEB := hidden heb
  clear hp hx hT he heb
  simp only [E4.v] at MO ⊢
  have s0 := ((St.nil w).roomR p 26)
  have s1 := (s0.new x 26).room 26
  simp only [World.size_alloc] at s1
  have S1 := hidden s1
  clear s0 s1
  go_enter Tryd.func30, Tryd.ntmps30
  go_wp2_with fail
  go_loopw [11] (fun i w' => ∃ (k : Nat) (r : E4), k ≤ c ∧ i = .int .i64 k ∧ r.is (clim y z e c k * R) ∧ St w [(w.heap.size, r), (w.heap.size + 1 + 1, zero4), (w.heap.size + 1, x)] [w.heap.size + 1 + 1, w.heap.size] w') (fun i _ => c - (intOf i).toNat)
  case atStart =>
    refine ⟨0, p, by omega, rfl, ?_, S1.out.sub (by simp)⟩
    rw [clim_start y z e c HE.out]
    exact HP.out
  case round =>
    obtain ⟨k, r, hk, rfl, hr, hst⟩ := hrel
    clear S1
    have HR := hidden hr
    clear hr
    have v0 := (hst.live (w.heap.size, r) (by simp)).c0
    have v1 := (hst.live (w.heap.size, r) (by simp)).c1
    have v2 := (hst.live (w.heap.size, r) (by simp)).c2
    have v3 := (hst.live (w.heap.size, r) (by simp)).c3
    have ST := hidden hst
    clear hst
    by_cases hkc : k < c
    · have hkc2 : (k : Int) < (c : Int) := by omega
      have hc64 : (c : Int) ≤ 64 := by omega
      go_upto_region 4 with fail
      go_cut [] (fun wx => ∃ r2 : E4, r2.is (clim y z e c k * clim y z e c k * R) ∧ St w [(w.heap.size, r2), (w.heap.size + 1 + 1, zero4), (w.heap.size + 1, x)] [w.heap.size + 1 + 1, w.heap.size] wx)
      case first =>
        go_wp2_with fail
        refine (MO.out r r HR.out.ok HR.out.ok HR.out.lt _ (ST.out.tb HT.out)).mono ?_
        rintro e' w2 ⟨r2, rfl, hr2, hb2⟩
        have s2 := ST.out.keep hb2
        clear v0 v1 v2 v3
        have v0 := (s2.live (w.heap.size, r) (by simp)).c0
        have v1 := (s2.live (w.heap.size, r) (by simp)).c1
        have v2 := (s2.live (w.heap.size, r) (by simp)).c2
        have v3 := (s2.live (w.heap.size, r) (by simp)).c3
        obtain ⟨g0, g1, g2, g3⟩ := (s2.wrt w.heap.size (by simp)).1
        have S3 := hidden (s2.set (b := w.heap.size) (M := [(w.heap.size + 1 + 1, zero4), (w.heap.size + 1, x)]) r2 (old := r) (by simp) (by omega) (by simp; omega))
        have HR2 := hidden hr2
        clear s2 hr2
        go_wp2_with fail
        go_meet
        exact ⟨r2, mont_mul HR.out HR.out HR2.out, S3.out⟩
      case rest =>
      obtain ⟨r2, hr2, s2⟩ := hcut
      clear v0 v1 v2 v3
      have HR2 := hidden hr2
      have S2 := hidden s2
      clear hr2 s2
      have hj : (c : Int) - 1 - (k : Int) = ((c - 1 - k : Nat) : Int) := by omega
      have hj0 : (0 : Int) ≤ (c : Int) - 1 - (k : Int) := by omega
      have hj64 : c - 1 - k < 64 := by omega
      have hEi : (e : Int) < 18446744073709551616 := by have := HEB.out; omega
      go_upto_region 5 with fail
      go_cut [24] (fun vx wx => vx = .bool (decide (e / 2 ^ (c - 1 - k) % 2 = 1)) ∧ wx = wc)
      case first =>
        go_wp2_with fail
        go_meet
        refine ⟨?_, rfl⟩
        have hle : e / 2 ^ (c - 1 - k) ≤ e := Nat.div_le_self _ _
        have eI : (e : Int) / 2 ^ (c - 1 - k) = ((e / 2 ^ (c - 1 - k) : Nat) : Int) := by simp
        rw [eI]
        generalize e / 2 ^ (c - 1 - k) = q at *
        rw [and1_u64 _ (by omega) (by omega)]
        congr 1
        rw [decide_eq_decide]
        omega
      case rest =>
      obtain ⟨rfl, rfl⟩ := hcut
      have NX := hidden (clim_next y z e c k hkc)
      by_cases hbit : e / 2 ^ (c - 1 - k) % 2 = 1
      · have hd : decide (e / 2 ^ (c - 1 - k) % 2 = 1) = true := decide_eq_true hbit
        rw [hd]
        have N1 := hidden (NX.out 1 hbit)
        clear NX hd hbit hj hj0 hj64 hEi
        have v0 := (S2.out.live (w.heap.size, r2) (by simp)).c0
        have v1 := (S2.out.live (w.heap.size, r2) (by simp)).c1
        have v2 := (S2.out.live (w.heap.size, r2) (by simp)).c2
        have v3 := (S2.out.live (w.heap.size, r2) (by simp)).c3
        have u0 := (S2.out.live (w.heap.size + 1, x) (by simp)).c0
        have u1 := (S2.out.live (w.heap.size + 1, x) (by simp)).c1
        have u2 := (S2.out.live (w.heap.size + 1, x) (by simp)).c2
        have u3 := (S2.out.live (w.heap.size + 1, x) (by simp)).c3
        go_wp2_with fail
        refine (MO.out r2 x HR2.out.ok HX.out.ok HX.out.lt _ (S2.out.tb HT.out)).mono ?_
        rintro e' w3 ⟨r3, rfl, hr3, hb3⟩
        have s3 := S2.out.keep hb3
        clear v0 v1 v2 v3 u0 u1 u2 u3
        have v0 := (s3.live (w.heap.size, r2) (by simp)).c0
        have v1 := (s3.live (w.heap.size, r2) (by simp)).c1
        have v2 := (s3.live (w.heap.size, r2) (by simp)).c2
        have v3 := (s3.live (w.heap.size, r2) (by simp)).c3
        obtain ⟨g0, g1, g2, g3⟩ := (s3.wrt w.heap.size (by simp)).1
        have S3 := hidden (s3.set (b := w.heap.size) (M := [(w.heap.size + 1 + 1, zero4), (w.heap.size + 1, x)]) r3 (old := r2) (by simp) (by omega) (by simp; omega))
        have HR3 := hidden hr3
        clear s3 hr3
        go_wp2_with fail
        go_roundw
        case rel =>
          refine ⟨k + 1, r3, by omega, by go_num, ?_, S3.out⟩
          have h := mont_mul HR2.out HX.out HR3.out
          have n1 := N1.out
          rw [Int.pow_succ, Int.pow_zero, Int.one_mul] at n1
          rw [n1] at h
          exact h
        case measure => simp [intOf]; omega
      · have hd : decide (e / 2 ^ (c - 1 - k) % 2 = 1) = false := decide_eq_false hbit
        rw [hd]
        have N1 := hidden (NX.out 0 (by omega))
        clear NX hd hbit hj hj0 hj64 hEi
        go_wp2_with fail
        go_roundw
        case rel =>
          refine ⟨k + 1, r2, by omega, by go_num, ?_, S2.out⟩
          have n1 := N1.out
          rw [Int.pow_zero, Int.mul_one] at n1
          rw [← n1]
          exact HR2.out
        case measure => simp [intOf]; omega
    · have hkk : k = c := by omega
      subst hkk
      have d0 := (ST.out.live (w.heap.size + 1 + 1, zero4) (by simp)).c0
      have d1 := (ST.out.live (w.heap.size + 1 + 1, zero4) (by simp)).c1
      have d2 := (ST.out.live (w.heap.size + 1 + 1, zero4) (by simp)).c2
      have d3 := (ST.out.live (w.heap.size + 1 + 1, zero4) (by simp)).c3
      obtain ⟨g0, g1, g2, g3⟩ := (ST.out.wrt (w.heap.size + 1 + 1) (by simp)).1
      go_wp2_with fail
      refine bodyPost_ret (v := .agg #[.int .u64 r.x0, .int .u64 r.x1, .int .u64 r.x2, .int .u64 r.x3]) (by simp [results, Tryd.results30, go_sem, d0, d1, d2, d3]) rfl ⟨r, rfl, ?_, ?_⟩
      · have h := HR.out
        rw [clim_end] at h
        exact h
      · exact set4_below _ _ _ ST.out.bel (by omega)
end Go.Proofs.YtaejedhdpilhjaaDoor
