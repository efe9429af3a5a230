import Derived.Test.YthhcdjndfepbaaaApb
namespace Go.Proofs.Ythhcdjndfepbaaa
open Go.RowKit
set_option maxRecDepth 100000 in
set_option maxHeartbeats 8000000 in
theorem mix_pair : MixP := by
  intro x y z t P Q n cP cQ a b c d w hn40 hnP hnQ hP hQ
  have HP := hidden hP
  have HQ := hidden hQ
  have N40 := hidden hn40
  have nn0 : (0 : Int) ≤ (n : Int) := by omega
  unfold pv
  obtain ⟨i0, hi, hz0, hz1, hz2⟩ := info_parts pairinfo
  have hmk := fun w => run_make (P := Try.prog) w 40 43 i0 (.agg #[.int .i64 0, .int .i64 0]) (by kernel_rfl) hi hz0 .i64 .i64 (n : Int) (n : Int) (by omega) (Int.le_refl _) (by rw [hz2]; omega) (by omega)
  simp only [Int.toNat_natCast, hz1, Value.cells] at hmk
  have B0 := bl_alloc w (.cells #[.int .i64 x, .int .i64 y] 43)
  have X1 := Bp.new B0 z t 43
  rw [World.size_alloc] at X1
  replace X1 := hidden (X1.keep (bl_alloc _ (.cells (madeCells #[.int .i64 0, .int .i64 0] (n * 2)) 43)))
  have X0 := hidden (((Bp.new (Below.refl _ w) x y 43).keep (bl_alloc _ (.cells #[.int .i64 z, .int .i64 t] 43))).keep (bl_alloc _ (.cells (madeCells #[.int .i64 0, .int .i64 0] (n * 2)) 43)))
  have R0 := Rp.made ((w.alloc (.cells #[.int .i64 x, .int .i64 y] 43)).alloc (.cells #[.int .i64 z, .int .i64 t] 43)) n 43
  rw [World.size_alloc, World.size_alloc] at R0
  replace R0 := hidden R0
  replace B0 := hidden (bl_trans (bl_trans B0 (bl_alloc _ (.cells #[.int .i64 z, .int .i64 t] 43))) (bl_alloc _ (.cells (madeCells #[.int .i64 0, .int .i64 0] (n * 2)) 43)))
  clear hn40 hnP hnQ hP hQ hi hz0 hz1 hz2
  go_enter Try.func22, Try.ntmps22
  go_wp2_with fail
  clear hmk
  go_loopw [22] (fun kv w' => ∃ (k : Nat) (f g : Nat → Int), k ≤ n ∧ kv = .int .i64 (k : Int) ∧ Hid (∀ j, j < k → Q57 (f j) (g j) (x * a j + z * c j) (y * b j + t * d j)) ∧ Hid (Bp w w' w.heap.size x y) ∧ Hid (Bp w w' (w.heap.size + 1) z t) ∧ Hid (Rp w' (w.heap.size + 1 + 1) n f g) ∧ Hid (Below w.heap.size w w')) (fun k _ => n - (intOf k).toNat)
  case atStart => exact ⟨0, _, _, by omega, rfl, hidden (fun j hj => absurd hj (by omega)), X0, X1, R0, B0⟩
  case round =>
    clear X0 X1 R0 B0
    obtain ⟨k, f, g, hk, rfl, hq, h0, h1, hR, hB⟩ := hrel
    by_cases hkn : k < n
    · have k0 : (0 : Int) ≤ (k : Int) := by omega
      have k1 : (k : Int) < (n : Int) := by omega
      have w9 : IntKind.i64.wrap ((k : Int) + 1) = (k : Int) + 1 := IntWalk.i64_in _ (by have := N40.out; omega)
      obtain ⟨sa, oa, hPa, hca⟩ := HP.out
      obtain rfl := hPa (by omega)
      obtain ⟨sb, ob, hQb, hcb⟩ := HQ.out
      obtain rfl := hQb (by omega)
      have c1 := cell_keep (cell_keep (hca k (by omega)).1 hB.out) (bl_drew _)
      have d1 := cell_keep (cell_keep (hca k (by omega)).2 hB.out) (bl_drew _)
      have c2 := cell_keep (cell_keep (hcb k (by omega)).1 hB.out) (bl_drew _)
      have d2 := cell_keep (cell_keep (hcb k (by omega)).2 hB.out) (bl_drew _)
      have c3 := (h0.out.keep (bl_drew _)).c
      have d3 := (h0.out.keep (bl_drew _)).d
      have c4 := (h1.out.keep (bl_drew _)).c
      have d4 := (h1.out.keep (bl_drew _)).d
      have MU := hidden (fun w => pMulC x y (a k) (b k) w)
      have MV := hidden (fun w => pMulC z t (c k) (d k) w)
      have AD := hidden (fun (u v u' v' : Int) w => pAddC u v u' v' w)
      have m1 := mp_Mul x y
      have m2 := mp_Mul z t
      have m3 := fun u v => mp_Add u v
      clear hca hcb hPa hQb
      go_upto_region 7 with fail
      go_region_with (first | (go_at_call 18; with_reducible refine (MU.out _).mono ?_; rintro e wa ⟨p, q, rfl, hpq, ha⟩; have c5 := cell_keep c2 ha; have d5 := cell_keep d2 ha; have c6 := cell_keep c4 ha; have d6 := cell_keep d4 ha; have HPQ := hidden hpq; have HA := hidden ha; clear ha hpq) | (go_at_call 18; with_reducible refine (MV.out _).mono ?_; rintro e wb ⟨r, o, rfl, hro, hb⟩; have HRO := hidden hro; have HB := hidden hb; clear hb hro) | (go_at_call 23; with_reducible refine (AD.out _ _ _ _ _).mono ?_; rintro e wc ⟨u, v, rfl, huv, hc⟩; have hab := bl_trans (bl_trans (bl_trans (bl_drew wr) HA.out) HB.out) hc; have KR := hR.out.keep hab; have c7 := KR.c k hkn; have d7 := KR.d k hkn; have f7 := KR.f k hkn; have g7 := KR.g k hkn; have HUV := hidden huv; have HAB := hidden hab; clear hab hc huv KR))
      all_goals
        have NQ : Hid (∀ j, j < k + 1 → Q57 (if j = k then u else f j) (if j = k then v else g j) (x * a j + z * c j) (y * b j + t * d j)) := hidden (fun j hj => by
          by_cases e : j = k
          · subst e; rw [if_pos rfl, if_pos rfl]; exact HUV.out.trans (HPQ.out.add HRO.out)
          · rw [if_neg e, if_neg e]; exact hq.out j (by omega))
        have Y0 := hidden ((h0.out.keep HAB.out).far (d := w.heap.size + 1 + 1) (o := k * 2) (u := u) (v := v) (by omega))
        have Y1 := hidden ((h1.out.keep HAB.out).far (d := w.heap.size + 1 + 1) (o := k * 2) (u := u) (v := v) (by omega))
        have YR := hidden ((hR.out.keep HAB.out).set k hkn u v)
        have YB := hidden (setp_bel (o := k * 2) (x := u) (y := v) (bl_trans hB.out HAB.out) (show w.heap.size ≤ w.heap.size + 1 + 1 by omega))
        clear c1 c2 c3 c4 c5 c6 c7 d1 d2 d3 d4 d5 d6 d7 f7 g7 m1 m2 m3 hB hq h0 h1 hR
        unfold setp at Y0 Y1 YR YB
        go_wp2_with fail
        go_roundw
        case rel => exact ⟨k + 1, _, _, by omega, by go_num, NQ, Y0, Y1, YR, YB⟩
        case measure => simp [intOf]; omega
    · obtain rfl : k = n := by omega
      clear hkn
      go_wp2_with fail
      refine bodyPost_ret (v := .tuple #[.slice (some ⟨w.heap.size + 1 + 1, 0, none⟩) k k, .int .i64 0]) (by simp [results, Try.results22, go_sem]) rfl ⟨some ⟨w.heap.size + 1 + 1, 0, none⟩, k, f, g, rfl, Nat.le_refl _, hR.out.ip, hq.out, hB.out⟩
end Go.Proofs.Ythhcdjndfepbaaa
