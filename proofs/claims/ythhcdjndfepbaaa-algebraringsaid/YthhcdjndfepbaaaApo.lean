import Derived.Test.YthhcdjndfepbaaaApb
namespace Go.Proofs.Ythhcdjndfepbaaa
open Go.RowKit
set_option maxRecDepth 100000 in
set_option maxHeartbeats 8000000 in
theorem powers_pair : PowersP := by
  intro x y n w hn40
  have N40 := hidden hn40
  have nn0 : (0 : Int) ≤ (n : Int) := by omega
  have nn1 : ¬ ((n : Int) < 0) := by omega
  have nn2 : ¬ ((4096 : Int) < (n : Int)) := by omega
  have nn3 : (n : Int) ≤ 4096 := by omega
  unfold pv
  obtain ⟨i0, hi, hz0, hz1, hz2⟩ := info_parts pairinfo
  have hmk := fun w => run_make (P := Try.prog) w 40 43 i0 (.agg #[.int .i64 0, .int .i64 0]) (by kernel_rfl) hi hz0 .i64 .i64 (n : Int) (n : Int) (by omega) (Int.le_refl _) (by rw [hz2]; omega) (by omega)
  simp only [Int.toNat_natCast, hz1, Value.cells] at hmk
  have B0 := bl_alloc w (.cells #[.int .i64 x, .int .i64 y] 43)
  have X0 := hidden ((Bp.new (Below.refl _ w) x y 43).keep (bl_alloc _ (.cells (madeCells #[.int .i64 0, .int .i64 0] (n * 2)) 43)))
  have R0 := Rp.made (w.alloc (.cells #[.int .i64 x, .int .i64 y] 43)) n 43
  rw [World.size_alloc] at R0
  replace R0 := hidden R0
  replace B0 := hidden (bl_trans B0 (bl_alloc _ (.cells (madeCells #[.int .i64 0, .int .i64 0] (n * 2)) 43)))
  clear hn40 hi hz0 hz1 hz2
  go_enter Try.func20, Try.ntmps20
  go_upto_region 4 with fail
  generalize ((w.alloc (.cells #[.int .i64 x, .int .i64 y] 43)).alloc (.cells (madeCells #[.int .i64 0, .int .i64 0] (n * 2)) 43)) = w1 at *
  go_cut [7] (fun v7 wx => ∃ bp : Nat, v7 = .pointer (some ⟨bp, 0, none⟩) ∧ w.heap.size + 1 < bp ∧ Bp w wx w.heap.size x y ∧ Bp w wx bp 1 1 ∧ Rp wx (w.heap.size + 1) n (fun _ => 0) (fun _ => 0) ∧ Below w.heap.size w wx)
  case first =>
    have c1 := X0.out.c
    have d1 := X0.out.d
    have m1 := mp_One x y
    have ON := hidden (fun w => pOne_any x y w)
    unfold pv at ON
    go_wp2_with (first | (go_at_call 62; refine (ON.out _).mono ?_; rintro e wa ⟨rfl, ha⟩; have HA := hidden ha; clear ha))
    go_meet
    have hl := (R0.out.keep HA.out).lt
    exact ⟨_, rfl, hl, (X0.out.keep HA.out).keep (bl_alloc _ _), Bp.new (bl_trans B0.out HA.out) 1 1 _, (R0.out.keep HA.out).keep (bl_alloc _ _), bl_trans (bl_trans B0.out HA.out) (bl_alloc _ _)⟩
  case rest =>
  obtain ⟨bp, rfl, hbp, hx0, hx1, hr, hb⟩ := hcut
  clear X0 R0 B0 hmk
  have X0 := hidden hx0
  have X1 := hidden hx1
  have R0 := hidden hr
  have B0 := hidden hb
  clear hx0 hx1 hr hb
  go_wp2_with fail
  go_loopw [22] (fun kv w' => ∃ (k : Nat) (s t : Int) (f g : Nat → Int), k ≤ n ∧ kv = .int .i64 (k : Int) ∧ Hid (Q57 s t (x ^ k) (y ^ k)) ∧ Hid (∀ j, j < k → Q57 (f j) (g j) (x ^ j) (y ^ j)) ∧ Hid (Bp w w' w.heap.size x y) ∧ Hid (Bp w w' bp s t) ∧ Hid (Rp w' (w.heap.size + 1) n f g) ∧ Hid (Below w.heap.size w w')) (fun k _ => n - (intOf k).toNat)
  case atStart => exact ⟨0, 1, 1, _, _, by omega, rfl, hidden (Q57.of_eq (by simp) (by simp)), hidden (fun j hj => absurd hj (by omega)), X0, X1, R0, B0⟩
  case round =>
    clear X0 X1 R0 B0
    obtain ⟨k, s, t, f, g, hk, rfl, hs, hq, h0, h1, hR, hB⟩ := hrel
    by_cases hkn : k < n
    · have k0 : (0 : Int) ≤ (k : Int) := by omega
      have k1 : (k : Int) < (n : Int) := by omega
      have w9 : IntKind.i64.wrap ((k : Int) + 1) = (k : Int) + 1 := IntWalk.i64_in _ (by have := N40.out; omega)
      have c1 := h1.out.c
      have d1 := h1.out.d
      have c2 := hR.out.c k hkn
      have d2 := hR.out.d k hkn
      have f2 := hR.out.f k hkn
      have g2 := hR.out.g k hkn
      have K0 := h0.out.far (d := w.heap.size + 1) (o := k * 2) (u := s) (v := t) (by omega)
      have K1 := h1.out.far (d := w.heap.size + 1) (o := k * 2) (u := s) (v := t) (by omega)
      have KR := hR.out.set k hkn s t
      have KB := setp_bel (o := k * 2) (x := s) (y := t) hB.out (show w.heap.size ≤ w.heap.size + 1 by omega)
      have NQ : Hid (∀ j, j < k + 1 → Q57 (if j = k then s else f j) (if j = k then t else g j) (x ^ j) (y ^ j)) := hidden (fun j hj => by
        by_cases e : j = k
        · subst e; rw [if_pos rfl, if_pos rfl]; exact hs.out
        · rw [if_neg e, if_neg e]; exact hq.out j (by omega))
      have c3 := K1.c
      have d3 := K1.d
      have c4 := K0.c
      have d4 := K0.d
      have HK0 := hidden K0
      have HK1 := hidden K1
      have HKR := hidden KR
      have HKB := hidden KB
      have MU := hidden (fun w => pMulC s t x y w)
      have m1 := mp_Mul s t
      unfold setp at c3 d3 c4 d4
      clear K0 K1 KR KB
      go_wp2_with (first | (go_at_call 18; refine (MU.out _).mono ?_; rintro e wa ⟨z, v, rfl, hzv, ha⟩; have L1 := HK1.out.keep ha; have c5 := L1.c; have d5 := L1.d; have f5 := L1.f; have g5 := L1.g; have HZV := hidden hzv; have HA := hidden ha; clear ha hzv L1))
      have NS : Hid (Q57 z v (x ^ (k + 1)) (y ^ (k + 1))) := hidden (HZV.out.trans ((hs.out.mul Q57.rfl).trans (Q57.of_eq (Int.pow_succ _ _).symm (Int.pow_succ _ _).symm)))
      have Y0 := hidden ((HK0.out.keep HA.out).far (d := bp) (o := 0) (u := z) (v := v) (by omega))
      have Y1 := hidden ((HK1.out.keep HA.out).put z v)
      have YR := hidden ((HKR.out.keep HA.out).far (d := bp) (o := 0) (x := z) (y := v) (by omega))
      have YB := hidden (setp_bel (o := 0) (x := z) (y := v) (bl_trans HKB.out HA.out) h1.out.ge)
      unfold setp at Y0 Y1 YR YB
      go_roundw
      case rel => exact ⟨k + 1, z, v, _, _, by omega, by go_num, NS, NQ, Y0, Y1, YR, YB⟩
      case measure => simp [intOf]; omega
    · obtain rfl : k = n := by omega
      clear hkn
      go_wp2_with fail
      refine bodyPost_ret (v := .tuple #[.slice (some ⟨w.heap.size + 1, 0, none⟩) k k, .int .i64 0]) (by simp [results, Try.results20, go_sem]) rfl ⟨some ⟨w.heap.size + 1, 0, none⟩, k, f, g, rfl, Nat.le_refl _, hR.out.ip, hq.out, hB.out⟩
end Go.Proofs.Ythhcdjndfepbaaa
