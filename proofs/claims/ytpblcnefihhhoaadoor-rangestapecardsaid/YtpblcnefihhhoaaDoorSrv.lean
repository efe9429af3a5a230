import Derived.Test.YtpblcnefihhhoaaDoorSrm
import Derived.Test.YtpblcnefihhhoaaDoorScl
namespace Go.Proofs.YtpblcnefihhhoaaDoor
open Go.RowKit

theorem pow_even (n : Int) (E k : Nat) (h : E / 2 ^ k % 2 = 0) : n ^ (E / 2 ^ k) = n ^ (E / 2 ^ (k + 1)) * n ^ (E / 2 ^ (k + 1)) := by
  rw [← Int.pow_add]
  congr 1
  rw [Nat.pow_succ, ← Nat.div_div_eq_div_mul]
  omega
theorem pow_odd (n : Int) (E k : Nat) (h : E / 2 ^ k % 2 = 1) : n ^ (E / 2 ^ k) = n ^ (E / 2 ^ (k + 1)) * n ^ (E / 2 ^ (k + 1)) * n := by
  rw [← Int.pow_add, ← Int.pow_succ]
  congr 1
  rw [Nat.pow_succ, ← Nat.div_div_eq_div_mul]
  omega
theorem is_mul {r s t : E4} {x y : Int} (hr : r.is x) (hs : s.is y) (h : t.is (r.n * s.n)) : t.is (x * y) := is_of h (mul_cong hr.m hs.m)

theorem rInt1_any (w : World) : Calls Tryd.prog 27 #[.int .u64 1] w fun e w' => e = .returned k1.v ∧ Below w.heap.size w w' := by
  simp only [k1, E4.v]
  go_enter Tryd.func27, Tryd.ntmps27
  go_wp2_with fail
  refine bodyPost_ret (v := .agg #[.int .u64 1, .int .u64 0, .int .u64 0, .int .u64 0]) (by simp [results, Tryd.results27, go_sem]) rfl ⟨rfl, ?_⟩
  exact bl_alloc w _

set_option maxRecDepth 100000 in
set_option maxHeartbeats 8000000 in
theorem rPower_any (n : Int) (E : Nat) (w : World) (hE : E < 18446744073709551616) :
    Calls Tryd.prog 45 #[(lst n).v, .int .u64 E] w fun e w' => e = .returned (lst (n ^ E)).v ∧ Below w.heap.size w w' := by
  obtain ⟨a, hA⟩ : ∃ t : E4, lst n = t := ⟨_, rfl⟩
  have MU := hidden (fun (r s : E4) (h : r.ok) (k : s.ok) w => rMul_raw r s w h k)
  have I1 := hidden rInt1_any
  have HA : Hid (a.is n) := hidden hA.symm
  have HE := hidden hE
  have s0 := (St.start w a 34).room 34
  simp only [World.size_alloc] at s0
  have S0 := hidden s0
  rw [hA]
  clear s0 hA
  simp only [E4.v, k1] at MU I1 ⊢
  go_enter Tryd.func45, Tryd.ntmps45
  go_upto_region 1 with fail
  generalize ((w.alloc (.cells #[.int .u64 a.x0, .int .u64 a.x1, .int .u64 a.x2, .int .u64 a.x3] 34)).alloc (.cells #[.int .u64 0, .int .u64 0, .int .u64 0, .int .u64 0] 34)) = wB at S0 ⊢
  go_cut [5] (fun vx wx => ∃ P : Nat, vx = .pointer (some ⟨P, 0, none⟩) ∧ w.heap.size + 1 < P ∧ St w [(P, k1), (w.heap.size + 1, zero4), (w.heap.size, a)] [P, w.heap.size + 1] wx)
  case first =>
    go_wp2_with fail
    refine (I1.out _).mono ?_
    rintro e w2 ⟨rfl, hb2⟩
    have s1 := S0.out.keep hb2
    have s2 := hidden (s1.roomR k1 34)
    have hl := (s1.live (w.heap.size + 1, zero4) (by simp)).lt
    clear hb2 s1
    go_wp2_with fail
    go_meet
    exact ⟨_, rfl, hl, s2.out⟩
  case rest =>
  obtain ⟨P, rfl, hP, s1⟩ := hcut
  have S1 := hidden s1
  clear s1 S0
  go_wp2_with fail
  go_loopw [6] (fun i w' => ∃ (k : Nat) (r : E4), k ≤ 64 ∧ i = .int .i64 ((k : Int) - 1) ∧ r.is (n ^ (E / 2 ^ k)) ∧ St w [(P, r), (w.heap.size + 1, zero4), (w.heap.size, a)] [P, w.heap.size + 1] w') (fun i _ => (intOf i + 1).toNat)
  case atStart => exact ⟨64, k1, by omega, rfl, by rw [Nat.div_eq_of_lt HE.out, Int.pow_zero]; exact lst1.symm, S1.out⟩
  case round =>
    obtain ⟨k, r, hk, rfl, hr, hst⟩ := hrel
    have HR := hidden hr
    have ST := hidden hst
    clear S1 hr
    cases k with
    | zero =>
      have v0 := (hst.live (P, r) (by simp)).c0
      have v1 := (hst.live (P, r) (by simp)).c1
      have v2 := (hst.live (P, r) (by simp)).c2
      have v3 := (hst.live (P, r) (by simp)).c3
      have d0 := (hst.live (w.heap.size + 1, zero4) (by simp)).c0
      have d1 := (hst.live (w.heap.size + 1, zero4) (by simp)).c1
      have d2 := (hst.live (w.heap.size + 1, zero4) (by simp)).c2
      have d3 := (hst.live (w.heap.size + 1, zero4) (by simp)).c3
      obtain ⟨f0, f1, f2, f3⟩ := (hst.wrt (w.heap.size + 1) (by simp)).1
      clear hst
      rw [show ((0 : Nat) : Int) - 1 = -1 from rfl]
      go_wp2_with fail
      refine bodyPost_ret (v := .agg #[.int .u64 r.x0, .int .u64 r.x1, .int .u64 r.x2, .int .u64 r.x3]) (by simp [results, Tryd.results45, go_sem, d0, d1, d2, d3]) rfl ⟨?_, ?_⟩
      · have h := HR.out
        rw [Nat.pow_zero, Nat.div_one] at h
        rw [← h]
      · exact set4_below _ _ _ ST.out.bel (by omega)
    | succ k =>
      rw [show ((k + 1 : Nat) : Int) - 1 = (k : Int) by omega]
      have v0 := (hst.live (P, r) (by simp)).c0
      have v1 := (hst.live (P, r) (by simp)).c1
      have v2 := (hst.live (P, r) (by simp)).c2
      have v3 := (hst.live (P, r) (by simp)).c3
      clear hst
      have kk0 : (0 : Int) ≤ (k : Int) := by omega
      have kk1 : (k : Int) < 64 := by omega
      have hk64 : k < 64 := by omega
      go_upto_region 5 with fail
      go_cut [] (fun wx => ∃ r2 : E4, r2.is (n ^ (E / 2 ^ (k + 1)) * n ^ (E / 2 ^ (k + 1))) ∧ St w [(P, r2), (w.heap.size + 1, zero4), (w.heap.size, a)] [P, w.heap.size + 1] wx)
      case first =>
        go_wp2_with fail
        refine (MU.out r r HR.out.ok HR.out.ok _).mono ?_
        rintro e' w2 ⟨r2, rfl, hm, hb2⟩
        have s2 := ST.out.keep hb2
        clear v0 v1 v2 v3
        have v0 := (s2.live (P, r) (by simp)).c0
        have v1 := (s2.live (P, r) (by simp)).c1
        have v2 := (s2.live (P, r) (by simp)).c2
        have v3 := (s2.live (P, r) (by simp)).c3
        obtain ⟨g0, g1, g2, g3⟩ := (s2.wrt P (by simp)).1
        have S3 := hidden (s2.set (b := P) (M := [(w.heap.size + 1, zero4), (w.heap.size, a)]) r2 (old := r) (by simp) (by omega) (by simp; omega))
        have HM := hidden hm
        clear s2 hm hb2
        go_wp2_with fail
        go_meet
        exact ⟨r2, is_mul HR.out HR.out HM.out, S3.out⟩
      case rest =>
      obtain ⟨r2, hr2, s2⟩ := hcut
      clear v0 v1 v2 v3 ST HR
      have HR2 := hidden hr2
      have S2 := hidden s2
      clear hr2 s2
      have hEi : (E : Int) < 18446744073709551616 := by have := HE.out; omega
      go_upto_region 6 with fail
      go_cut [19] (fun vx wx => vx = .bool (decide (E / 2 ^ k % 2 = 1)) ∧ wx = wc)
      case first =>
        go_wp2_with fail
        go_meet
        refine ⟨?_, rfl⟩
        have hle : E / 2 ^ k ≤ E := Nat.div_le_self _ _
        have eI : (E : Int) / 2 ^ k = ((E / 2 ^ k : Nat) : Int) := by simp
        rw [eI]
        generalize E / 2 ^ k = q at *
        rw [and1_u64 _ (by omega) (by omega)]
        congr 1
        rw [decide_eq_decide]
        omega
      case rest =>
      obtain ⟨rfl, rfl⟩ := hcut
      by_cases hbit : E / 2 ^ k % 2 = 1
      · have hd : decide (E / 2 ^ k % 2 = 1) = true := decide_eq_true hbit
        rw [hd]
        have PO := hidden (pow_odd n E k hbit)
        clear hd hbit hEi
        have v0 := (S2.out.live (P, r2) (by simp)).c0
        have v1 := (S2.out.live (P, r2) (by simp)).c1
        have v2 := (S2.out.live (P, r2) (by simp)).c2
        have v3 := (S2.out.live (P, r2) (by simp)).c3
        have y0 := (S2.out.live (w.heap.size, a) (by simp)).c0
        have y1 := (S2.out.live (w.heap.size, a) (by simp)).c1
        have y2 := (S2.out.live (w.heap.size, a) (by simp)).c2
        have y3 := (S2.out.live (w.heap.size, a) (by simp)).c3
        go_wp2_with fail
        refine (MU.out r2 a HR2.out.ok HA.out.ok _).mono ?_
        rintro e' w2 ⟨r3, rfl, hm, hb2⟩
        have s2 := S2.out.keep hb2
        clear v0 v1 v2 v3
        have v0 := (s2.live (P, r2) (by simp)).c0
        have v1 := (s2.live (P, r2) (by simp)).c1
        have v2 := (s2.live (P, r2) (by simp)).c2
        have v3 := (s2.live (P, r2) (by simp)).c3
        obtain ⟨g0, g1, g2, g3⟩ := (s2.wrt P (by simp)).1
        have S3 := hidden (s2.set (b := P) (M := [(w.heap.size + 1, zero4), (w.heap.size, a)]) r3 (old := r2) (by simp) (by omega) (by simp; omega))
        have HM := hidden hm
        clear s2 hm hb2
        go_wp2_with fail
        go_roundw
        case rel => exact ⟨k, r3, by omega, by go_num, by rw [PO.out]; exact is_mul HR2.out HA.out HM.out, S3.out⟩
        case measure => simp [intOf]
      · have hd : decide (E / 2 ^ k % 2 = 1) = false := decide_eq_false hbit
        rw [hd]
        have PO := hidden (pow_even n E k (by omega))
        clear hd hbit hEi
        go_wp2_with fail
        go_roundw
        case rel => exact ⟨k, r2, by omega, by go_num, by rw [PO.out]; exact HR2.out, S2.out⟩
        case measure => simp [intOf]
end Go.Proofs.YtpblcnefihhhoaaDoor
