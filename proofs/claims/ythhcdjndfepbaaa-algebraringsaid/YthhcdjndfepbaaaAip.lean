import Derived.Test.YthhcdjndfepbaaaApb
namespace Go.Proofs.Ythhcdjndfepbaaa
open Go.RowKit
set_option maxRecDepth 100000 in
set_option maxHeartbeats 8000000 in
theorem inner_pair : InnerP := by
  intro P Q n cP cQ a b c d w hn40 hnP hnQ hP hQ
  have HP := hidden hP
  have HQ := hidden hQ
  have N40 := hidden hn40
  have nn0 : (0 : Int) ≤ (n : Int) := by omega
  unfold pv
  have X1 := Bp.new (Below.refl _ w) 0 0 43
  have B0 := bl_alloc w (.cells #[.int .i64 0, .int .i64 0] 43)
  have X2 := Bp.new B0 0 0 43
  rw [World.size_alloc] at X2
  replace X1 := hidden (X1.keep (bl_alloc _ (.cells #[.int .i64 0, .int .i64 0] 43)))
  replace X2 := hidden X2
  replace B0 := hidden (bl_trans B0 (bl_alloc _ (.cells #[.int .i64 0, .int .i64 0] 43)))
  clear hn40 hnP hnQ hP hQ
  go_enter Try.func21, Try.ntmps21
  go_wp2_with fail
  go_loopw [16] (fun kv w' => ∃ (k : Nat) (s t : Int), k ≤ n ∧ kv = .int .i64 (k : Int) ∧ Hid (Q57 s t (Mx.sm k (fun j => a j * c j)) (Mx.sm k (fun j => b j * d j))) ∧ Hid (Below w.heap.size w w') ∧ Hid (Bp w w' w.heap.size 0 0) ∧ Hid (Bp w w' (w.heap.size + 1) s t)) (fun k _ => n - (intOf k).toNat)
  case atStart => exact ⟨0, 0, 0, by omega, rfl, hidden Q57.rfl, B0, X1, X2⟩
  case round =>
    clear B0 X1 X2
    obtain ⟨k, s, t, hk, rfl, hs, hB, h1, h2⟩ := hrel
    by_cases hkn : k < n
    · have k0 : (0 : Int) ≤ (k : Int) := by omega
      have k1 : (k : Int) < (n : Int) := by omega
      have w9 : IntKind.i64.wrap ((k : Int) + 1) = (k : Int) + 1 := IntWalk.i64_in _ (by have := N40.out; omega)
      obtain ⟨sa, oa, hPa, hca⟩ := HP.out
      obtain rfl := hPa (by omega)
      obtain ⟨sb, ob, hQb, hcb⟩ := HQ.out
      obtain rfl := hQb (by omega)
      have c1 := cell_keep (cell_keep (hca k (by omega)).1 hB.out) (bl_drew _)
      have d1 := cell_keep (cell_keep (hca k (by omega)).2 hB.out) (bl_drew _)
      have c2 := cell_keep (cell_keep (hcb k (by omega)).1 hB.out) (bl_drew _)
      have d2 := cell_keep (cell_keep (hcb k (by omega)).2 hB.out) (bl_drew _)
      have c3 := (h2.out.keep (bl_drew _)).c
      have d3 := (h2.out.keep (bl_drew _)).d
      have MU := hidden (fun w => pMulC (a k) (b k) (c k) (d k) w)
      have AD := hidden (fun (u v : Int) w => pAddC s t u v w)
      have m1 := mp_Mul (a k) (b k)
      have m2 := mp_Add s t
      clear hca hcb hPa hQb
      go_upto_region 7 with fail
      go_region_with (first | (go_at_call 18; with_reducible refine (MU.out _).mono ?_; rintro e wa ⟨p, q, rfl, hpq, ha⟩; have c4 := cell_keep c3 ha; have d4 := cell_keep d3 ha; have HPQ := hidden hpq; have HA := hidden ha; clear ha hpq) | (go_at_call 23; with_reducible refine (AD.out _ _ _).mono ?_; rintro e wb ⟨z, v, rfl, hzv, hb⟩; have hab := bl_trans (bl_trans (bl_drew wr) HA.out) hb; have K2 := h2.out.keep hab; have c5 := K2.c; have d5 := K2.d; have f5 := K2.f; have g5 := K2.g; have HZV := hidden hzv; have HAB := hidden hab; clear hab hb hzv K2))
      all_goals
        have NS : Hid (Q57 z v (Mx.sm (k + 1) (fun j => a j * c j)) (Mx.sm (k + 1) (fun j => b j * d j))) := hidden (HZV.out.trans (hs.out.add HPQ.out))
        have B1 := hidden (setp_bel (o := 0) (x := z) (y := v) (bl_trans hB.out HAB.out) h2.out.ge)
        have Y1 := hidden ((h1.out.keep HAB.out).far (d := w.heap.size + 1) (o := 0) (u := z) (v := v) (by omega))
        have Y2 := hidden ((h2.out.keep HAB.out).put z v)
        clear c1 c2 c3 c4 c5 d1 d2 d3 d4 d5 f5 g5 m1 m2 hB hs h1 h2
        unfold setp at B1 Y1 Y2
        go_wp2_with fail
        go_roundw
        case rel => exact ⟨k + 1, z, v, by omega, by go_num, NS, B1, Y1, Y2⟩
        case measure => simp [intOf]; omega
    · obtain rfl : k = n := by omega
      have c1 := h2.out.c
      have d1 := h2.out.d
      have c2 := h1.out.c
      have d2 := h1.out.d
      have f2 := h1.out.f
      have g2 := h1.out.g
      have B2 := hidden (setp_bel (o := 0) (x := s) (y := t) hB.out h1.out.ge)
      have c9 := (h1.out.put s t).c
      have d9 := (h1.out.put s t).d
      unfold setp at B2 c9 d9
      clear hkn
      go_wp2_with fail
      refine bodyPost_ret (v := .tuple #[.agg #[.int .i64 s, .int .i64 t], .int .i64 0]) (by simp [results, Try.results21, go_sem, c9, d9]) rfl ⟨s, t, rfl, hs.out, B2.out⟩
end Go.Proofs.Ythhcdjndfepbaaa
