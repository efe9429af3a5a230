import Derived.Test.YtaejedhdpilhjaaDoorSpw
namespace Go.Proofs.YtaejedhdpilhjaaDoor
open Go.RowKit

/-- l - 2 -/
def eE : E4 := ⟨6346243789798364139, 1503914060200516822, 0, 1152921504606846976⟩
def eN : Nat → Nat
  | 0 => 6346243789798364139
  | 1 => 1503914060200516822
  | 2 => 0
  | _ => 1152921504606846976
theorem eE_get (k : Nat) : eE.get k = (eN k : Int) := by
  unfold E4.get eN eE; split <;> simp_all
theorem eN_lt (k : Nat) : eN k < 2 ^ 64 := by
  unfold eN; split <;> decide
/-- the exponent's upper k limbs -/
def ex : Nat → Nat
  | 0 => 0
  | k + 1 => ex k * 2 ^ 64 + eN (3 - k)
theorem ex4 : ex 4 = 7237005577332262213973186563042994240857116359379907606001950938285454250987 := by decide +kernel
theorem ex_next (n : Int) (k : Nat) : (n ^ ex k) ^ 2 ^ 64 * n ^ eN (3 - k) * R = n ^ ex (k + 1) * R := by
  rw [← Int.pow_mul, ← Int.pow_add]; rfl

set_option maxRecDepth 100000 in
set_option maxHeartbeats 8000000 in
theorem Invert_any (a : E4) (w : World) (hT : Tb w) (ha : a.ok) :
    Calls Tryd.prog 11 #[a.v] w fun e' w' => ∃ r : E4, e' = .returned r.v ∧ r.is (a.n ^ 7237005577332262213973186563042994240857116359379907606001950938285454250987) ∧ Below w.heap.size w w' := by
  have EN := hidden (fun w T => enter_any a w T ha)
  have CL := hidden (fun (p u : E4) (k : Nat) hp hu w T => climb_any p u (a.n ^ ex k) a.n (eN (3 - k)) 64 w T hp hu (eN_lt _) (by decide))
  have LV := hidden (fun (p : E4) (h : p.ok) (k : p.n < Sm.L) w T => leave_any p w T h k)
  have HT := hidden hT
  obtain ⟨t0, t1, t2, t3, t4, t5, t6, t7, -⟩ := hT
  have hz0 : 0 < w.heap.size := World.block_lt_of_cell? w ⟨0, 0, none⟩ t0
  have hzA : ¬ w.heap.size = 0 := by omega
  have hzB : ¬ 0 = w.heap.size := by omega
  have hzC : 0 < w.heap.size := by omega
  have hzD : 0 < w.heap.size + 1 := by omega
  have hzE : 0 < w.heap.size + 1 + 1 := by omega
  clear ha
  simp only [E4.v] at EN CL LV ⊢
  have s0 := ((St.start w a 26).room 26).new eE 26
  simp only [World.size_alloc] at s0
  have SH := hidden s0
  clear s0
  go_enter Tryd.func11, Tryd.ntmps11
  go_upto_region 3 with fail
  go_cut [4] (fun vx wx => ∃ (X : Nat) (u : E4), vx = .pointer (some ⟨X, 0, none⟩) ∧ w.heap.size + 1 + 1 < X ∧ u.is (a.n * R) ∧ St w [(X, u), (w.heap.size + 1 + 1, eE), (w.heap.size + 1, zero4), (w.heap.size, a)] [w.heap.size + 1] wx)
  case first =>
    go_wp2_with fail
    refine (EN.out _ (SH.out.tb HT.out)).mono ?_
    rintro e' w1 ⟨u, rfl, hu, hb1⟩
    have s1 := (SH.out.keep hb1).new u 26
    have hl : w.heap.size + 1 + 1 < w1.heap.size := ((SH.out.keep hb1).live (w.heap.size + 1 + 1, eE) (by simp)).lt
    replace s1 := hidden s1
    clear t0 t1 t2 t3 t4 t5 t6 t7 hz0
    go_wp2_with fail
    go_meet
    exact ⟨_, u, rfl, hl, hu, s1.out⟩
  case rest =>
  obtain ⟨X, u, rfl, hX, hu, s1⟩ := hcut
  have HU := hidden hu
  have S1 := hidden s1
  clear hu s1 SH t0 t1 t2 t3 t4 t5 t6 t7 EN
  go_upto_region 4 with fail
  go_cut [5] (fun vx wx => ∃ (P : Nat), vx = .pointer (some ⟨P, 0, none⟩) ∧ X < P ∧ St w [(P, r1E), (X, u), (w.heap.size + 1 + 1, eE), (w.heap.size + 1, zero4), (w.heap.size, a)] [P, w.heap.size + 1] wx)
  case first =>
    obtain ⟨-, -, -, -, t4, t5, t6, t7, -⟩ := S1.out.tb HT.out
    have s2 := S1.out.roomR r1E 26
    have hl : X < wc.heap.size := (S1.out.live (X, u) (by simp)).lt
    replace s2 := hidden s2
    go_wp2_with fail
    go_meet
    exact ⟨_, rfl, hl, s2.out⟩
  case rest =>
  obtain ⟨P, rfl, hP, s2⟩ := hcut
  have S2 := hidden s2
  clear s2 S1
  go_wp2_with fail
  go_loopw [17] (fun i w' => ∃ (k : Nat) (r : E4), k ≤ 4 ∧ i = .int .i64 k ∧ r.is (a.n ^ ex k * R) ∧ St w [(P, r), (X, u), (w.heap.size + 1 + 1, eE), (w.heap.size + 1, zero4), (w.heap.size, a)] [P, w.heap.size + 1] w') (fun i _ => 4 - (intOf i).toNat)
  case atStart =>
    refine ⟨0, r1E, by omega, rfl, ?_, S2.out⟩
    have h := r1_m
    have e0 : a.n ^ ex 0 = 1 := Int.pow_zero _
    rw [e0]
    exact h
  case round =>
    obtain ⟨k, r, hk, rfl, hr, hst⟩ := hrel
    clear S2
    have HR := hidden hr
    clear hr
    by_cases hk4 : k < 4
    · obtain rfl | rfl | rfl | rfl : k = 0 ∨ k = 1 ∨ k = 2 ∨ k = 3 := by omega
      · rw [show ((0 : Nat) : Int) = 0 from rfl]
        have hwJ : IntKind.i64.wrap 3 = 3 := IntWalk.i64_in _ (by omega)
        have EXN := hidden (ex_next a.n 0)
        have CLK : Hid (∀ w, Tb w → _) := hidden (fun w T => climb_any r u (a.n ^ ex 0) a.n 1152921504606846976 64 w T HR.out HU.out (by decide) (by decide))
        simp only [E4.v] at CLK
        have v0 := (hst.live (P, r) (by simp)).drew.c0
        have v1 := (hst.live (P, r) (by simp)).drew.c1
        have v2 := (hst.live (P, r) (by simp)).drew.c2
        have v3 := (hst.live (P, r) (by simp)).drew.c3
        have x0 := (hst.live (X, u) (by simp)).drew.c0
        have x1 := (hst.live (X, u) (by simp)).drew.c1
        have x2 := (hst.live (X, u) (by simp)).drew.c2
        have x3 := (hst.live (X, u) (by simp)).drew.c3
        have ej : wr.drew.cell? ⟨w.heap.size + 1 + 1, 3, none⟩ = some (.int .u64 1152921504606846976) := (hst.live (w.heap.size + 1 + 1, eE) (by simp)).drew.c3
        have SH := hidden hst
        clear hst
        go_upto_region 8 with fail
        go_region_with (first | (go_at_call 30; refine (CLK.out _ (SH.out.drew.tb HT.out)).mono ?_; rintro e' wC ⟨p, rfl, hp, hbC⟩; have sB := SH.out.drew.keep hbC; have q0 := (sB.live (P, r) (by simp)).c0; have q1 := (sB.live (P, r) (by simp)).c1; have q2 := (sB.live (P, r) (by simp)).c2; have q3 := (sB.live (P, r) (by simp)).c3; have f0 := (sB.wrt P (by simp)).1.f0; have f1 := (sB.wrt P (by simp)).1.f1; have f2 := (sB.wrt P (by simp)).1.f2; have f3 := (sB.wrt P (by simp)).1.f3; have S5 := hidden (sB.set (b := P) (M := [(X, u), (w.heap.size + 1 + 1, eE), (w.heap.size + 1, zero4), (w.heap.size, a)]) p (old := r) (by simp) (by omega) (by simp; omega)); clear sB))
        all_goals
          clear v0 v1 v2 v3 x0 x1 x2 x3 ej q0 q1 q2 q3 f0 f1 f2 f3
          go_wp2_with fail
          go_roundw
          case rel => exact ⟨0 + 1, p, by omega, by go_num, by rw [← EXN.out]; exact hp, S5.out⟩
          case measure => simp [intOf]
      · rw [show ((1 : Nat) : Int) = 1 from rfl]
        have hwJ : IntKind.i64.wrap 2 = 2 := IntWalk.i64_in _ (by omega)
        have EXN := hidden (ex_next a.n 1)
        have CLK : Hid (∀ w, Tb w → _) := hidden (fun w T => climb_any r u (a.n ^ ex 1) a.n 0 64 w T HR.out HU.out (by decide) (by decide))
        simp only [E4.v] at CLK
        have v0 := (hst.live (P, r) (by simp)).drew.c0
        have v1 := (hst.live (P, r) (by simp)).drew.c1
        have v2 := (hst.live (P, r) (by simp)).drew.c2
        have v3 := (hst.live (P, r) (by simp)).drew.c3
        have x0 := (hst.live (X, u) (by simp)).drew.c0
        have x1 := (hst.live (X, u) (by simp)).drew.c1
        have x2 := (hst.live (X, u) (by simp)).drew.c2
        have x3 := (hst.live (X, u) (by simp)).drew.c3
        have ej : wr.drew.cell? ⟨w.heap.size + 1 + 1, 2, none⟩ = some (.int .u64 0) := (hst.live (w.heap.size + 1 + 1, eE) (by simp)).drew.c2
        have SH := hidden hst
        clear hst
        go_upto_region 8 with fail
        go_region_with (first | (go_at_call 30; refine (CLK.out _ (SH.out.drew.tb HT.out)).mono ?_; rintro e' wC ⟨p, rfl, hp, hbC⟩; have sB := SH.out.drew.keep hbC; have q0 := (sB.live (P, r) (by simp)).c0; have q1 := (sB.live (P, r) (by simp)).c1; have q2 := (sB.live (P, r) (by simp)).c2; have q3 := (sB.live (P, r) (by simp)).c3; have f0 := (sB.wrt P (by simp)).1.f0; have f1 := (sB.wrt P (by simp)).1.f1; have f2 := (sB.wrt P (by simp)).1.f2; have f3 := (sB.wrt P (by simp)).1.f3; have S5 := hidden (sB.set (b := P) (M := [(X, u), (w.heap.size + 1 + 1, eE), (w.heap.size + 1, zero4), (w.heap.size, a)]) p (old := r) (by simp) (by omega) (by simp; omega)); clear sB))
        all_goals
          clear v0 v1 v2 v3 x0 x1 x2 x3 ej q0 q1 q2 q3 f0 f1 f2 f3
          go_wp2_with fail
          go_roundw
          case rel => exact ⟨1 + 1, p, by omega, by go_num, by rw [← EXN.out]; exact hp, S5.out⟩
          case measure => simp [intOf]
      · rw [show ((2 : Nat) : Int) = 2 from rfl]
        have hwJ : IntKind.i64.wrap 1 = 1 := IntWalk.i64_in _ (by omega)
        have EXN := hidden (ex_next a.n 2)
        have CLK : Hid (∀ w, Tb w → _) := hidden (fun w T => climb_any r u (a.n ^ ex 2) a.n 1503914060200516822 64 w T HR.out HU.out (by decide) (by decide))
        simp only [E4.v] at CLK
        have v0 := (hst.live (P, r) (by simp)).drew.c0
        have v1 := (hst.live (P, r) (by simp)).drew.c1
        have v2 := (hst.live (P, r) (by simp)).drew.c2
        have v3 := (hst.live (P, r) (by simp)).drew.c3
        have x0 := (hst.live (X, u) (by simp)).drew.c0
        have x1 := (hst.live (X, u) (by simp)).drew.c1
        have x2 := (hst.live (X, u) (by simp)).drew.c2
        have x3 := (hst.live (X, u) (by simp)).drew.c3
        have ej : wr.drew.cell? ⟨w.heap.size + 1 + 1, 1, none⟩ = some (.int .u64 1503914060200516822) := (hst.live (w.heap.size + 1 + 1, eE) (by simp)).drew.c1
        have SH := hidden hst
        clear hst
        go_upto_region 8 with fail
        go_region_with (first | (go_at_call 30; refine (CLK.out _ (SH.out.drew.tb HT.out)).mono ?_; rintro e' wC ⟨p, rfl, hp, hbC⟩; have sB := SH.out.drew.keep hbC; have q0 := (sB.live (P, r) (by simp)).c0; have q1 := (sB.live (P, r) (by simp)).c1; have q2 := (sB.live (P, r) (by simp)).c2; have q3 := (sB.live (P, r) (by simp)).c3; have f0 := (sB.wrt P (by simp)).1.f0; have f1 := (sB.wrt P (by simp)).1.f1; have f2 := (sB.wrt P (by simp)).1.f2; have f3 := (sB.wrt P (by simp)).1.f3; have S5 := hidden (sB.set (b := P) (M := [(X, u), (w.heap.size + 1 + 1, eE), (w.heap.size + 1, zero4), (w.heap.size, a)]) p (old := r) (by simp) (by omega) (by simp; omega)); clear sB))
        all_goals
          clear v0 v1 v2 v3 x0 x1 x2 x3 ej q0 q1 q2 q3 f0 f1 f2 f3
          go_wp2_with fail
          go_roundw
          case rel => exact ⟨2 + 1, p, by omega, by go_num, by rw [← EXN.out]; exact hp, S5.out⟩
          case measure => simp [intOf]
      · rw [show ((3 : Nat) : Int) = 3 from rfl]
        have hwJ : IntKind.i64.wrap 0 = 0 := IntWalk.i64_in _ (by omega)
        have EXN := hidden (ex_next a.n 3)
        have CLK : Hid (∀ w, Tb w → _) := hidden (fun w T => climb_any r u (a.n ^ ex 3) a.n 6346243789798364139 64 w T HR.out HU.out (by decide) (by decide))
        simp only [E4.v] at CLK
        have v0 := (hst.live (P, r) (by simp)).drew.c0
        have v1 := (hst.live (P, r) (by simp)).drew.c1
        have v2 := (hst.live (P, r) (by simp)).drew.c2
        have v3 := (hst.live (P, r) (by simp)).drew.c3
        have x0 := (hst.live (X, u) (by simp)).drew.c0
        have x1 := (hst.live (X, u) (by simp)).drew.c1
        have x2 := (hst.live (X, u) (by simp)).drew.c2
        have x3 := (hst.live (X, u) (by simp)).drew.c3
        have ej : wr.drew.cell? ⟨w.heap.size + 1 + 1, 0, none⟩ = some (.int .u64 6346243789798364139) := (hst.live (w.heap.size + 1 + 1, eE) (by simp)).drew.c0
        have SH := hidden hst
        clear hst
        go_upto_region 8 with fail
        go_region_with (first | (go_at_call 30; refine (CLK.out _ (SH.out.drew.tb HT.out)).mono ?_; rintro e' wC ⟨p, rfl, hp, hbC⟩; have sB := SH.out.drew.keep hbC; have q0 := (sB.live (P, r) (by simp)).c0; have q1 := (sB.live (P, r) (by simp)).c1; have q2 := (sB.live (P, r) (by simp)).c2; have q3 := (sB.live (P, r) (by simp)).c3; have f0 := (sB.wrt P (by simp)).1.f0; have f1 := (sB.wrt P (by simp)).1.f1; have f2 := (sB.wrt P (by simp)).1.f2; have f3 := (sB.wrt P (by simp)).1.f3; have S5 := hidden (sB.set (b := P) (M := [(X, u), (w.heap.size + 1 + 1, eE), (w.heap.size + 1, zero4), (w.heap.size, a)]) p (old := r) (by simp) (by omega) (by simp; omega)); clear sB))
        all_goals
          clear v0 v1 v2 v3 x0 x1 x2 x3 ej q0 q1 q2 q3 f0 f1 f2 f3
          go_wp2_with fail
          go_roundw
          case rel => exact ⟨3 + 1, p, by omega, by go_num, by rw [← EXN.out]; exact hp, S5.out⟩
          case measure => simp [intOf]
    · have hkk : k = 4 := by omega
      subst hkk
      have v0 := (hst.live (P, r) (by simp)).c0
      have v1 := (hst.live (P, r) (by simp)).c1
      have v2 := (hst.live (P, r) (by simp)).c2
      have v3 := (hst.live (P, r) (by simp)).c3
      have SH := hidden hst
      clear hst
      go_wp2_with fail
      refine (LV.out r HR.out.ok HR.out.lt _ (SH.out.tb HT.out)).mono ?_
      rintro e' w3 ⟨t, rfl, ht, hb3⟩
      clear v0 v1 v2 v3
      have sB := SH.out.keep hb3
      have q0 := (sB.live (w.heap.size + 1, zero4) (by simp)).c0
      have q1 := (sB.live (w.heap.size + 1, zero4) (by simp)).c1
      have q2 := (sB.live (w.heap.size + 1, zero4) (by simp)).c2
      have q3 := (sB.live (w.heap.size + 1, zero4) (by simp)).c3
      have f0 := (sB.wrt (w.heap.size + 1) (by simp)).1.f0
      have f1 := (sB.wrt (w.heap.size + 1) (by simp)).1.f1
      have f2 := (sB.wrt (w.heap.size + 1) (by simp)).1.f2
      have f3 := (sB.wrt (w.heap.size + 1) (by simp)).1.f3
      replace sB := hidden sB
      go_wp2_with fail
      refine bodyPost_ret (v := .agg #[.int .u64 t.x0, .int .u64 t.x1, .int .u64 t.x2, .int .u64 t.x3]) (by simp [results, Tryd.results11, go_sem, q0, q1, q2, q3]) rfl ⟨t, rfl, is_of ht ?_, ?_⟩
      · refine (mul_cong HR.out.m rfl).trans ?_
        rw [ex4]
        exact cancel _
      · exact set4_below _ _ _ sB.out.bel (by omega)
end Go.Proofs.YtaejedhdpilhjaaDoor
