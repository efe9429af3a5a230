import Derived.Test.YtgijodenblpbgaaDoorRof
namespace Go.Proofs.YtgijodenblpbgaaDoor
open Go.RowKit
/-- limbs as far as one has come: the first k bits -/
def lb (N : Int) (k j : Nat) : Int := N / 2 ^ (51 * j) % 2 ^ (min 51 (k - 51 * j))
theorem lb_bd (N : Int) (k j : Nat) : 0 ≤ lb N k j ∧ lb N k j < 2251799813685248 := by
  unfold lb
  have hp := p2pos (min 51 (k - 51 * j))
  refine ⟨Int.emod_nonneg _ (by omega), Int.lt_of_lt_of_le (Int.emod_lt_of_pos _ hp) ?_⟩
  have h2 : (2 : Nat) ^ (min 51 (k - 51 * j)) ≤ 2251799813685248 := Nat.pow_le_pow_right (n := 2) (by decide) (show min 51 (k - 51 * j) ≤ 51 by omega)
  have e : (2 : Int) ^ (min 51 (k - 51 * j)) = ((2 ^ (min 51 (k - 51 * j)) : Nat) : Int) := by simp
  rw [e]
  omega
theorem lb_zero (N : Int) (j : Nat) : lb N 0 j = 0 := by
  unfold lb
  rw [show min 51 (0 - 51 * j) = 0 by omega, Int.pow_zero, Int.emod_one]
theorem lb_far (N : Int) (k j : Nat) (h : j ≠ k / 51) : lb N (k + 1) j = lb N k j := by
  unfold lb
  by_cases hl : j < k / 51
  · rw [show min 51 (k + 1 - 51 * j) = 51 by omega, show min 51 (k - 51 * j) = 51 by omega]
  · rw [show k + 1 - 51 * j = 0 by omega, show k - 51 * j = 0 by omega]
theorem lb_here (N : Int) (hN : 0 ≤ N) (k : Nat) : lb N (k + 1) (k / 51) = lb N k (k / 51) + 2 ^ (k % 51) * (N / 2 ^ k % 2) := by
  unfold lb
  rw [show min 51 (k + 1 - 51 * (k / 51)) = k % 51 + 1 by omega, show min 51 (k - 51 * (k / 51)) = k % 51 by omega, mod_bit _ (Int.ediv_nonneg hN (Int.le_of_lt (p2pos _))), Int.ediv_ediv_of_nonneg (Int.le_of_lt (p2pos _)), ← Int.pow_add, Nat.div_add_mod]
theorem lb_lim (N : Int) : lb N 255 0 = Fm.lim 0 N ∧ lb N 255 1 = Fm.lim 1 N ∧ lb N 255 2 = Fm.lim 2 N ∧ lb N 255 3 = Fm.lim 3 N ∧ lb N 255 4 = Fm.lim 4 N := by
  refine ⟨?_, ?_, ?_, ?_, ?_⟩
  · show N / 2 ^ (51 * 0) % 2 ^ (min 51 (255 - 51 * 0)) = N % 2251799813685248
    rw [show (2 : Int) ^ (51 * 0) = 1 by decide +kernel, show (2 : Int) ^ (min 51 (255 - 51 * 0)) = 2251799813685248 by decide +kernel, Int.ediv_one]
  · show N / 2 ^ (51 * 1) % 2 ^ (min 51 (255 - 51 * 1)) = N / 2251799813685248 % 2251799813685248
    rw [show (2 : Int) ^ (51 * 1) = 2251799813685248 by decide +kernel, show (2 : Int) ^ (min 51 (255 - 51 * 1)) = 2251799813685248 by decide +kernel]
  · show N / 2 ^ (51 * 2) % 2 ^ (min 51 (255 - 51 * 2)) = N / 5070602400912917605986812821504 % 2251799813685248
    rw [show (2 : Int) ^ (51 * 2) = 5070602400912917605986812821504 by decide +kernel, show (2 : Int) ^ (min 51 (255 - 51 * 2)) = 2251799813685248 by decide +kernel]
  · show N / 2 ^ (51 * 3) % 2 ^ (min 51 (255 - 51 * 3)) = N / 11417981541647679048466287755595961091061972992 % 2251799813685248
    rw [show (2 : Int) ^ (51 * 3) = 11417981541647679048466287755595961091061972992 by decide +kernel, show (2 : Int) ^ (min 51 (255 - 51 * 3)) = 2251799813685248 by decide +kernel]
  · show N / 2 ^ (51 * 4) % 2 ^ (min 51 (255 - 51 * 4)) = N / 25711008708143844408671393477458601640355247900524685364822016 % 2251799813685248
    rw [show (2 : Int) ^ (51 * 4) = 25711008708143844408671393477458601640355247900524685364822016 by decide +kernel, show (2 : Int) ^ (min 51 (255 - 51 * 4)) = 2251799813685248 by decide +kernel]
theorem dig_bit (N : Int) (k : Nat) : dig N (k / 26) / 2 ^ (k % 26) % 2 = N / 2 ^ k % 2 := by
  have e : N / 2 ^ k = dv N (k / 26) / 2 ^ (k % 26) := by
    rw [dv_eq, show (67108864 : Int) = 2 ^ 26 by decide, ← Int.pow_mul, Int.ediv_ediv_of_nonneg (Int.le_of_lt (p2pos _)), ← Int.pow_add, Nat.div_add_mod]
  rw [e]
  unfold dig
  generalize dv N (k / 26) = x
  obtain ⟨r, hr⟩ : ∃ r, k % 26 = r := ⟨_, rfl⟩
  have h : r < 26 := by omega
  rw [hr]
  have e2 : (67108864 : Int) = 2 ^ r * (2 * 2 ^ (25 - r)) := by
    rw [← Int.mul_assoc, ← Int.pow_succ, ← Int.pow_add, show r + 1 + (25 - r) = 26 by omega]
    decide
  have hp := p2pos r
  have hq := p2pos (25 - r)
  obtain ⟨M, hM⟩ : ∃ M : Int, 2 * 2 ^ (25 - r) = M := ⟨_, rfl⟩
  rw [hM] at e2
  have h3 : x % 67108864 / 2 ^ r = x / 2 ^ r % M := by
    have h6 := Int.emod_nonneg x (b := 67108864) (by decide)
    have h7 := Int.emod_lt_of_pos x (b := 67108864) (by decide)
    have h4 : x = x % 67108864 + 2 ^ r * (M * (x / 67108864)) := by rw [← Int.mul_assoc, ← e2]; omega
    have h5 : x / 2 ^ r = x % 67108864 / 2 ^ r + M * (x / 67108864) := by
      conv => lhs; rw [h4]
      rw [Int.add_mul_ediv_left _ _ (by omega)]
    rw [h5, Int.add_mul_emod_self_left]
    exact (Int.emod_eq_of_lt (Int.ediv_nonneg h6 (by omega)) (Int.ediv_lt_of_lt_mul hp (by rw [Int.mul_comm, ← e2]; exact h7))).symm
  rw [h3]
  exact Int.emod_emod_of_dvd _ ⟨2 ^ (25 - r), hM.symm⟩
/-- what lies where in Limbs -/
structure LiW (w0 : World) (N : Int) (O : Nat) (y : Nat → Int) (w : World) : Prop where
  a : Ri w w0.heap.size 10 (dig N)
  r : Ru w (w0.heap.size + 1) 5 (fun _ => 0)
  o : Ru w O 5 y
  n2 : w0.heap.size + 1 < O
  bel : Below w0.heap.size w0 w
theorem LiW.keep {w0 : World} {N : Int} {O : Nat} {y : Nat → Int} {w w' : World} (h : LiW w0 N O y w) (hb : Below w.heap.size w w') : LiW w0 N O y w' := ⟨h.a.keep hb, h.r.keep hb, h.o.keep hb, h.n2, bl_trans h.bel hb⟩
theorem LiW.put {w0 : World} {N : Int} {O : Nat} {y : Nat → Int} {w : World} (h : LiW w0 N O y w) (k : Nat) (hk : k < 5) (v : Int) : LiW w0 N O (fun j => if j = k then v else y j) (w.setCell ⟨O, k, none⟩ (.int .u64 v)) := by
  have := h.n2
  exact ⟨h.a.far (by omega) _ _, h.r.far (by omega) _ _, h.o.at k hk v, h.n2, h.bel.setCell (by show w0.heap.size ≤ O; omega) _⟩
theorem LiW.congr {w0 : World} {N : Int} {O : Nat} {y z : Nat → Int} {w : World} (h : LiW w0 N O y w) (e : ∀ j, j < 5 → y j = z j) : LiW w0 N O z w := ⟨h.a, h.r, h.o.congr e, h.n2, h.bel⟩
theorem Ru.zero5 (w : World) (t : TypeId) : Ru (w.alloc (.cells #[.int .u64 0, .int .u64 0, .int .u64 0, .int .u64 0, .int .u64 0] t)) w.heap.size 5 (fun _ => 0) :=
  (Ru.new5 w ⟨0, 0, 0, 0, 0⟩ t).congr (fun j _ => by unfold lmf; split <;> rfl)
theorem digs_row (w : World) (N : Int) (t : TypeId) : Ri (w.alloc (.cells ((digs N).map fun z => Value.int .i64 z).toArray t)) w.heap.size 10 (dig N) := by
  have h := Ri.new w (digs N) t
  rw [digs_len] at h
  exact h.congr (fun j hj => by simp [digs, List.getD_eq_getElem?_getD, hj])
theorem pow_51 (r : Nat) (h : r < 51) : (1 : Int) ≤ 2 ^ r ∧ (2 : Int) ^ r ≤ 1125899906842624 := by
  constructor
  · have := p2pos r; omega
  · have h2 : (2 : Nat) ^ r ≤ 1125899906842624 := Nat.pow_le_pow_right (n := 2) (by decide) (show r ≤ 50 by omega)
    have e : (2 : Int) ^ r = ((2 ^ r : Nat) : Int) := by simp
    rw [e]
    omega
set_option maxRecDepth 100000 in
set_option maxHeartbeats 16000000 in
theorem rLimbs_any (N : Int) (w : World) (hN : 0 ≤ N) :
    Calls Tryd.prog 39 #[fv (digs N)] w fun e w' => e = .returned (E5.v ⟨Fm.lim 0 N, Fm.lim 1 N, Fm.lim 2 N, Fm.lim 3 N, Fm.lim 4 N⟩) ∧ Below w.heap.size w w' := by
  have HN := hidden hN
  have R1 := hidden (digs_row w N 29)
  clear hN
  unfold fv
  generalize ((digs N).map fun z => Value.int .i64 z) = cs at *
  go_enter Tryd.func39, Tryd.ntmps39
  go_upto_region 1 with fail
  go_cut [3] (fun ov wx => ∃ O : Nat, ov = .pointer (some ⟨O, 0, none⟩) ∧ LiW w N O (lb N 0) wx)
  case first =>
    have R2 := Ru.zero5 (w.alloc (.cells cs.toArray 29)) 23
    have R3 := Ru.zero5 ((w.alloc (.cells cs.toArray 29)).alloc (.cells #[.int .u64 0, .int .u64 0, .int .u64 0, .int .u64 0, .int .u64 0] 23)) 23
    simp only [World.size_alloc] at R2 R3
    have NW := hidden (⟨(R1.out.keep (bl_alloc _ _)).keep (bl_alloc _ _), R2.keep (bl_alloc _ _), R3.congr (fun j _ => (lb_zero N j).symm), by omega, bl_alloc3 _ _ _ _⟩ : LiW w N (w.heap.size + 1 + 1) (lb N 0) _)
    clear R2 R3
    go_wp2_with fail
    go_meet
    exact ⟨_, rfl, NW.out⟩
  case rest =>
  obtain ⟨O, rfl, nw⟩ := hcut
  have NW := hidden nw
  clear nw R1
  go_wp2_with fail
  go_loopw [4] (fun kv w' => ∃ k : Nat, k ≤ 255 ∧ kv = .int .i64 k ∧ Hid (LiW w N O (lb N k) w')) (fun k _ => 255 - (intOf k).toNat)
  case atStart => exact ⟨0, by omega, rfl, NW⟩
  case round =>
    clear NW
    obtain ⟨k, hk, rfl, hM⟩ := hrel
    by_cases hk5 : k < 255
    · have k0 : (0 : Int) ≤ (k : Int) := by omega
      have k1 : (k : Int) < 255 := by omega
      obtain ⟨q, hq⟩ : ∃ q, k / 26 = q := ⟨_, rfl⟩
      obtain ⟨r, hr⟩ : ∃ r, k % 26 = r := ⟨_, rfl⟩
      have c0 := hM.out.a.c q (by omega)
      have db := dig_bit N k
      rw [hq, hr] at db
      have dn := dig_in N q
      have A1 := and1i (dig N q / 2 ^ r)
      have t1 : (k : Int).tdiv 26 = (q : Int) := by rw [Int.tdiv_eq_ediv_of_nonneg (by omega)]; omega
      have t2 : (k : Int).tmod 26 = (r : Int) := by rw [Int.tmod_eq_emod_of_nonneg (by omega)]; omega
      have q0 : (0 : Int) ≤ (q : Int) := by omega
      have q1 : (q : Int) < 10 := by omega
      have r0 : (0 : Int) ≤ (r : Int) := by omega
      have r1 : (r : Int) < 64 := by omega
      have wq : IntKind.i64.wrap (q : Int) = (q : Int) := IntWalk.i64_in _ (by omega)
      have wr' : IntKind.i64.wrap (r : Int) = (r : Int) := IntWalk.i64_in _ (by omega)
      have HE := lb_here N HN.out k
      by_cases hz : N / 2 ^ k % 2 = 1
      · rw [db, hz] at A1
        rw [hz, Int.mul_one] at HE
        obtain ⟨p, hp⟩ : ∃ p, k / 51 = p := ⟨_, rfl⟩
        obtain ⟨s, hs⟩ : ∃ s, k % 51 = s := ⟨_, rfl⟩
        rw [hp, hs] at HE
        have p5 : p < 5 := by omega
        have hd := hM.out.keep (drew_bl wr)
        have o0 := hd.o.c p p5
        have f0 := hd.o.fr p p5
        have yb := lb_bd N k p
        have pb := pow_51 s (by omega)
        have NM := hidden ((hd.put p p5 (lb N k p + 2 ^ s)).congr (z := lb N (k + 1)) (fun j _ => by
          by_cases hj : j = p
          · subst hj; rw [if_pos rfl, HE]
          · rw [if_neg hj, lb_far N k j (by omega)]))
        have t3 : (k : Int).tdiv 51 = (p : Int) := by rw [Int.tdiv_eq_ediv_of_nonneg (by omega)]; omega
        have t4 : (k : Int).tmod 51 = (s : Int) := by rw [Int.tmod_eq_emod_of_nonneg (by omega)]; omega
        have p0 : (0 : Int) ≤ (p : Int) := by omega
        have p1 : (p : Int) < 5 := by omega
        have s0 : (0 : Int) ≤ (s : Int) := by omega
        have s1 : (s : Int) < 64 := by omega
        have wp : IntKind.i64.wrap (p : Int) = (p : Int) := IntWalk.i64_in _ (by omega)
        have ws : IntKind.i64.wrap (s : Int) = (s : Int) := IntWalk.i64_in _ (by omega)
        generalize lb N k p = z at *
        generalize dig N q = x at *
        have w3 : IntKind.u64.wrap (2 ^ s) = 2 ^ s := by rw [IntKind.wrap_u64]; omega
        have w4 : IntKind.u64.wrap (z + 2 ^ s) = z + 2 ^ s := by rw [IntKind.wrap_u64]; omega
        clear hM hd yb pb hz HE hq hr hp hs db dn
        go_upto_region 6 with fail
        go_region_with fail
        all_goals
          clear o0 f0 w3 w4 t1 t2 t3 t4 q0 q1 r0 r1 p0 p1 s0 s1 wp ws wq wr' A1 c0
          go_wp2_with fail
          go_roundw
          case rel => exact ⟨k + 1, by omega, by go_num, NM⟩
          case measure => simp [intOf]; omega
      · have hz0 : N / 2 ^ k % 2 = 0 := by omega
        rw [db, hz0] at A1
        rw [hz0, Int.mul_zero, Int.add_zero] at HE
        have NM := hidden (hM.out.congr (z := lb N (k + 1)) (fun j _ => by
          by_cases hj : j = k / 51
          · rw [hj, HE]
          · rw [lb_far N k j hj]))
        generalize dig N q = x at *
        clear hM hz hz0 HE hq hr db dn
        go_wp2_with fail
        go_roundw
        case rel => exact ⟨k + 1, by omega, by go_num, NM⟩
        case measure => simp [intOf]; omega
    · have hk5 : k = 255 := by omega
      subst hk5
      obtain ⟨e0, e1, e2, e3, e4⟩ := lb_lim N
      have c0 := hM.out.o.c 0 (by omega)
      have c1 := hM.out.o.c 1 (by omega)
      have c2 := hM.out.o.c 2 (by omega)
      have c3 := hM.out.o.c 3 (by omega)
      have c4 := hM.out.o.c 4 (by omega)
      rw [e0] at c0
      rw [e1] at c1
      rw [e2] at c2
      rw [e3] at c3
      rw [e4] at c4
      have d0 := hM.out.r.c 0 (by omega)
      have d1 := hM.out.r.c 1 (by omega)
      have d2 := hM.out.r.c 2 (by omega)
      have d3 := hM.out.r.c 3 (by omega)
      have d4 := hM.out.r.c 4 (by omega)
      have f0 := hM.out.r.fr 0 (by omega)
      have f1 := hM.out.r.fr 1 (by omega)
      have f2 := hM.out.r.fr 2 (by omega)
      have f3 := hM.out.r.fr 3 (by omega)
      have f4 := hM.out.r.fr 4 (by omega)
      have BL := hidden hM.out.bel
      clear hM e0 e1 e2 e3 e4
      obtain ⟨y0, hy0⟩ : ∃ y, Fm.lim 0 N = y := ⟨_, rfl⟩
      obtain ⟨y1, hy1⟩ : ∃ y, Fm.lim 1 N = y := ⟨_, rfl⟩
      obtain ⟨y2, hy2⟩ : ∃ y, Fm.lim 2 N = y := ⟨_, rfl⟩
      obtain ⟨y3, hy3⟩ : ∃ y, Fm.lim 3 N = y := ⟨_, rfl⟩
      obtain ⟨y4, hy4⟩ : ∃ y, Fm.lim 4 N = y := ⟨_, rfl⟩
      have HY : Hid (E5.v ⟨Fm.lim 0 N, Fm.lim 1 N, Fm.lim 2 N, Fm.lim 3 N, Fm.lim 4 N⟩ = .agg #[.int .u64 y0, .int .u64 y1, .int .u64 y2, .int .u64 y3, .int .u64 y4]) := hidden (by rw [hy0, hy1, hy2, hy3, hy4]; rfl)
      rw [hy0] at c0
      rw [hy1] at c1
      rw [hy2] at c2
      rw [hy3] at c3
      rw [hy4] at c4
      clear hy0 hy1 hy2 hy3 hy4
      go_wp2_with fail
      refine bodyPost_ret (v := .agg #[.int .u64 y0, .int .u64 y1, .int .u64 y2, .int .u64 y3, .int .u64 y4]) (by simp [results, Tryd.results39, go_sem, d0, d1, d2, d3, d4]) rfl ⟨by rw [HY.out], ?_⟩
      have hh : w.heap.size ≤ w.heap.size + 1 := by omega
      exact ((((BL.out.setCell hh _).setCell hh _).setCell hh _).setCell hh _).setCell hh _
end Go.Proofs.YtgijodenblpbgaaDoor
