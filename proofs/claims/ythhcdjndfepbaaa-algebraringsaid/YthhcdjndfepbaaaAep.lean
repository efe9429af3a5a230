import Derived.Test.YthhcdjndfepbaaaApb
namespace Go.Proofs.Ythhcdjndfepbaaa
open Go.RowKit
/-- Horner, from the end on (any numbers) -/
def hp (a : Nat → Int) (x : Int) (n k : Nat) : Int := Mx.ev (n - k) (fun j => a (k + j)) x
theorem hp_step {a : Nat → Int} {x : Int} {n k : Nat} (h : k < n) : hp a x n k = hp a x n (k + 1) * x + a k := by
  unfold hp
  rw [show n - k = (n - (k + 1)) + 1 by omega, Mx.ev_first]
  have e : (fun j => a (k + (j + 1))) = (fun j => a (k + 1 + j)) := by funext j; congr 1; omega
  rw [Nat.add_zero, e]
  grind
theorem hp_zero (a : Nat → Int) (x : Int) (n : Nat) : hp a x n 0 = Mx.ev n a x := by
  unfold hp
  rw [Nat.sub_zero]
  congr 1
  funext j
  rw [Nat.zero_add]
set_option maxRecDepth 100000 in
set_option maxHeartbeats 8000000 in
theorem ev_pair : EvalP := by
  intro P n cP a b x y w hn100 hnc hI
  have HI := hidden hI
  have N40 := hidden hn100
  unfold pv
  have w8 : IntKind.i64.wrap ((n : Int) - 1) = (n : Int) - 1 := IntWalk.i64_in _ (by omega)
  have X0 := Bp.new (Below.refl _ w) x y 43
  have B0 := bl_alloc w (.cells #[.int .i64 x, .int .i64 y] 43)
  have X1 := Bp.new B0 0 0 43
  rw [World.size_alloc] at X1
  replace X0 := X0.keep (bl_alloc _ (.cells #[.int .i64 0, .int .i64 0] 43))
  replace B0 := bl_trans B0 (bl_alloc _ (.cells #[.int .i64 0, .int .i64 0] 43))
  have X2 := Bp.new B0 0 0 43
  rw [World.size_alloc, World.size_alloc] at X2
  replace X0 := hidden (X0.keep (bl_alloc _ (.cells #[.int .i64 0, .int .i64 0] 43)))
  replace X1 := hidden (X1.keep (bl_alloc _ (.cells #[.int .i64 0, .int .i64 0] 43)))
  replace X2 := hidden X2
  replace B0 := hidden (bl_trans B0 (bl_alloc _ (.cells #[.int .i64 0, .int .i64 0] 43)))
  clear hn100 hnc hI
  go_enter Try.func15, Try.ntmps15
  go_wp2_with fail
  clear w8
  go_loopw [6] (fun kv w' => ∃ (k : Nat) (s t : Int), k ≤ n ∧ kv = .int .i64 ((k : Int) - 1) ∧ Hid (Q57 s t (hp a x n k) (hp b y n k)) ∧ Hid (Below w.heap.size w w') ∧ Hid (Bp w w' w.heap.size x y) ∧ Hid (Bp w w' (w.heap.size + 1) 0 0) ∧ Hid (Bp w w' (w.heap.size + 1 + 1) s t)) (fun k _ => (intOf k + 1).toNat)
  case atStart => exact ⟨n, 0, 0, by omega, rfl, hidden (by unfold hp; rw [Nat.sub_self]; exact Q57.rfl), B0, X0, X1, X2⟩
  case round =>
    clear B0 X0 X1 X2
    obtain ⟨m, s, t, hm, rfl, hs, hB, h0, h1, h2⟩ := hrel
    by_cases hm0 : 0 < m
    · obtain ⟨k, rfl⟩ : ∃ k, m = k + 1 := ⟨m - 1, by omega⟩
      rw [show ((k + 1 : Nat) : Int) - 1 = (k : Int) by omega]
      have k0 : (0 : Int) ≤ (k : Int) := by omega
      have k1 : (k : Int) < (n : Int) := by omega
      have w9 : IntKind.i64.wrap ((k : Int) - 1) = (k : Int) - 1 := IntWalk.i64_in _ (by have := N40.out; omega)
      obtain ⟨sb, so, hP, hcl⟩ := HI.out
      obtain rfl := hP (by omega)
      have c1 := cell_keep (cell_keep (hcl k (by omega)).1 hB.out) (bl_drew _)
      have d1 := cell_keep (cell_keep (hcl k (by omega)).2 hB.out) (bl_drew _)
      have c2 := (h0.out.keep (bl_drew _)).c
      have d2 := (h0.out.keep (bl_drew _)).d
      have c3 := (h2.out.keep (bl_drew _)).c
      have d3 := (h2.out.keep (bl_drew _)).d
      have MU := hidden (fun w => pMulC s t x y w)
      have AD := hidden (fun (u v : Int) w => pAddC u v (a k) (b k) w)
      have m1 := mp_Mul s t
      have m2 := fun u v => mp_Add u v
      clear hcl
      go_upto_region 5 with fail
      go_region_with (first | (go_at_call 18; with_reducible refine (MU.out _).mono ?_; rintro e wa ⟨p, q, rfl, hpq, ha⟩; have c4 := cell_keep c1 ha; have d4 := cell_keep d1 ha; have HPQ := hidden hpq; have HA := hidden ha; clear ha hpq) | (go_at_call 23; with_reducible refine (AD.out _ _ _).mono ?_; rintro e wb ⟨z, v, rfl, hzv, hb⟩; have hab := bl_trans (bl_trans (bl_drew wr) HA.out) hb; have K2 := h2.out.keep hab; have c5 := K2.c; have d5 := K2.d; have f5 := K2.f; have g5 := K2.g; have HZV := hidden hzv; have HAB := hidden hab; clear hab hb hzv K2))
      all_goals
        have NS : Hid (Q57 z v (hp a x n k) (hp b y n k)) := hidden (by rw [hp_step (a := a) (x := x) (n := n) (k := k) (by omega), hp_step (a := b) (x := y) (n := n) (k := k) (by omega)]; exact HZV.out.trans ((HPQ.out.trans (hs.out.mul Q57.rfl)).add Q57.rfl))
        have B1 := hidden (setp_bel (o := 0) (x := z) (y := v) (bl_trans hB.out HAB.out) h2.out.ge)
        have Y0 := hidden ((h0.out.keep HAB.out).far (d := w.heap.size + 1 + 1) (o := 0) (u := z) (v := v) (by omega))
        have Y1 := hidden ((h1.out.keep HAB.out).far (d := w.heap.size + 1 + 1) (o := 0) (u := z) (v := v) (by omega))
        have Y2 := hidden ((h2.out.keep HAB.out).put z v)
        clear c1 c2 c3 c4 c5 d1 d2 d3 d4 d5 f5 g5 m1 m2 hB hs h0 h1 h2
        unfold setp at B1 Y0 Y1 Y2
        go_wp2_with fail
        go_roundw
        case rel => exact ⟨k, z, v, by omega, by go_num, NS, B1, Y0, Y1, Y2⟩
        case measure => simp [intOf]
    · obtain rfl : m = 0 := by omega
      have e1 : ((0 : Nat) : Int) - 1 = -1 := rfl
      rw [e1]
      have HS : Hid (Q57 s t (Mx.ev n a x) (Mx.ev n b y)) := hidden (by rw [← hp_zero a, ← hp_zero b]; exact hs.out)
      have c1 := h2.out.c
      have d1 := h2.out.d
      have c2 := h1.out.c
      have d2 := h1.out.d
      have f2 := h1.out.f
      have g2 := h1.out.g
      have B2 := hidden (setp_bel (o := 0) (x := s) (y := t) hB.out h1.out.ge)
      have c9 := (h1.out.put s t).c
      have d9 := (h1.out.put s t).d
      unfold setp at B2 c9 d9
      clear hs hm0
      go_wp2_with fail
      refine bodyPost_ret (v := .agg #[.int .i64 s, .int .i64 t]) (by simp [results, Try.results15, go_sem, c9, d9]) rfl ⟨s, t, rfl, HS.out, B2.out⟩
end Go.Proofs.Ythhcdjndfepbaaa
