import Derived.Test.YthhcdjndfepbaaaApb
namespace Go.Proofs.Ythhcdjndfepbaaa
open Go.RowKit
/-- a product of polynomials, so far: i rows are done, and j places of the next one -/
def cp (a c : Nat → Int) (l i j k : Nat) : Int := Mx.cv i a (Mx.zx l c) k + (if i ≤ k ∧ k - i < j then a i * c (k - i) else 0)
theorem cp_zero (a c : Nat → Int) (l k : Nat) : cp a c l 0 0 k = 0 := by
  unfold cp Mx.cv
  rw [if_neg (by omega)]
  rfl
theorem cp_row (a c : Nat → Int) (l i k : Nat) : cp a c l i l k = cp a c l (i + 1) 0 k := by
  unfold cp
  rw [if_neg (show ¬ (i + 1 ≤ k ∧ k - (i + 1) < 0) by omega)]
  have e : Mx.cv (i + 1) a (Mx.zx l c) k = Mx.cv i a (Mx.zx l c) k + (if i ≤ k then a i * Mx.zx l c (k - i) else 0) := rfl
  rw [e]
  by_cases h : i ≤ k
  · rw [if_pos h]
    unfold Mx.zx
    by_cases g : k - i < l
    · rw [if_pos ⟨h, g⟩, if_pos g]; omega
    · rw [if_neg (by omega), if_neg g]; omega
  · rw [if_neg (by omega), if_neg h]; omega
theorem cp_step (a c : Nat → Int) (l i j k : Nat) : cp a c l i (j + 1) k = if k = i + j then cp a c l i j k + a i * c j else cp a c l i j k := by
  unfold cp
  by_cases h : k = i + j
  · subst h
    rw [if_pos rfl, if_pos (by omega), if_neg (by omega), show i + j - i = j by omega]
    omega
  · rw [if_neg h]
    congr 1
    by_cases g : i ≤ k ∧ k - i < j
    · rw [if_pos (by omega), if_pos g]
    · rw [if_neg (by omega), if_neg g]
theorem cp_end (a c : Nat → Int) (l i k : Nat) : cp a c l i 0 k = Mx.cv i a (Mx.zx l c) k := by
  unfold cp
  rw [if_neg (by omega)]
  omega
set_option maxRecDepth 100000 in
set_option maxHeartbeats 8000000 in
theorem product_pair : ProductP := by
  intro P Q n l cP cQ a b c d w hn hl hnP hlQ hP hQ
  by_cases h0 : n = 0
  · subst h0
    clear hP hQ
    go_enter Try.func16, Try.ntmps16
    go_wp2_with fail
    refine bodyPost_ret (v := .slice none 0 0) (by simp [results, Try.results16, go_sem]) rfl ⟨none, 0, 0, fun _ => 0, fun _ => 0, rfl, by omega, by omega, ⟨0, 0, fun h => absurd h (by omega), fun k hk => absurd hk (by omega)⟩, fun _ => rfl, fun h => absurd h (by omega), Below.refl _ _⟩
  by_cases h1 : l = 0
  · subst h1
    have nn : ((n : Int) == 0) = false := by rw [beq_eq_false_iff_ne]; omega
    clear hP hQ
    go_enter Try.func16, Try.ntmps16
    go_wp2_with fail
    refine bodyPost_ret (v := .slice none 0 0) (by simp [results, Try.results16, go_sem]) rfl ⟨none, 0, 0, fun _ => 0, fun _ => 0, rfl, by omega, by omega, ⟨0, 0, fun h => absurd h (by omega), fun k hk => absurd hk (by omega)⟩, fun _ => rfl, fun _ h => absurd h (by omega), Below.refl _ _⟩
  obtain ⟨sa, oa, hPa, hca⟩ := hP
  obtain rfl := hPa (by omega)
  obtain ⟨sb, ob, hQb, hcb⟩ := hQ
  obtain rfl := hQb (by omega)
  have HCA := hidden hca
  have HCB := hidden hcb
  have HN := hidden hn
  have HL := hidden hl
  obtain ⟨N, hN⟩ : ∃ N, N + 1 = n + l := ⟨n + l - 1, by omega⟩
  have HNN := hidden hN
  have nn : ((n : Int) == 0) = false := by rw [beq_eq_false_iff_ne]; omega
  have ll : ((l : Int) == 0) = false := by rw [beq_eq_false_iff_ne]; omega
  have nn0 : (0 : Int) ≤ (n : Int) := by omega
  have ll0 : (0 : Int) ≤ (l : Int) := by omega
  have w1 : IntKind.i64.wrap ((n : Int) + (l : Int)) = (N : Int) + 1 := by rw [IntWalk.i64_in _ (by omega)]; omega
  have w2 : IntKind.i64.wrap ((N : Int) + 1 - 1) = (N : Int) := by rw [IntWalk.i64_in _ (by omega)]; omega
  have w3 : IntKind.i64.wrap (N : Int) = (N : Int) := IntWalk.i64_in _ (by omega)
  obtain ⟨i0, hi, hz0, hz1, hz2⟩ := info_parts pairinfo
  have hmk := fun w => run_make (P := Try.prog) w 40 43 i0 (.agg #[.int .i64 0, .int .i64 0]) (by kernel_rfl) hi hz0 .i64 .i64 (N : Int) (N : Int) (by omega) (Int.le_refl _) (by rw [hz2]; omega) (by omega)
  simp only [Int.toNat_natCast, hz1, Value.cells] at hmk
  have R0 := hidden (Rp.made w N 43)
  have B0 := hidden (bl_alloc w (.cells (madeCells #[.int .i64 0, .int .i64 0] (N * 2)) 43))
  clear hca hcb hPa hQb hn hl hnP hlQ hi hz0 hz1 hz2 hN
  go_enter Try.func16, Try.ntmps16
  go_wp2_with fail
  clear hmk w1 w2 w3
  go_loopw [25] (fun iv w' => ∃ (i : Nat) (f g : Nat → Int), i ≤ n ∧ iv = .int .i64 (i : Int) ∧ Hid (∀ k, k < N → Q57 (f k) (g k) (cp a c l i 0 k) (cp b d l i 0 k)) ∧ Hid (Rp w' w.heap.size N f g) ∧ Hid (Below w.heap.size w w')) (fun i _ => n - (intOf i).toNat)
  case atStart => exact ⟨0, _, _, by omega, rfl, hidden (fun k _ => Q57.of_eq (cp_zero a c l k).symm (cp_zero b d l k).symm), R0, B0⟩
  case round =>
    clear R0 B0
    obtain ⟨i, f, g, hi, rfl, hq, hR, hB⟩ := hrel
    by_cases hin : i < n
    · have i0 : (0 : Int) ≤ (i : Int) := by omega
      have i1 : (i : Int) < (n : Int) := by omega
      have w9 : IntKind.i64.wrap ((i : Int) + 1) = (i : Int) + 1 := IntWalk.i64_in _ (by have := HN.out; omega)
      go_wp2_with fail
      go_loopw [30] (fun jv w' => ∃ (j : Nat) (f g : Nat → Int), j ≤ l ∧ jv = .int .i64 (j : Int) ∧ Hid (∀ k, k < N → Q57 (f k) (g k) (cp a c l i j k) (cp b d l i j k)) ∧ Hid (Rp w' w.heap.size N f g) ∧ Hid (Below w.heap.size w w')) (fun j _ => l - (intOf j).toNat)
      case atStart => exact ⟨0, f, g, by omega, rfl, hq, hR, hB⟩
      case round =>
        clear hq hR hB
        clear f g
        obtain ⟨j, f, g, hj, rfl, hq, hR, hB⟩ := hrel
        by_cases hjl : j < l
        · have j0 : (0 : Int) ≤ (j : Int) := by omega
          have j1 : (j : Int) < (l : Int) := by omega
          have v9 : IntKind.i64.wrap ((j : Int) + 1) = (j : Int) + 1 := IntWalk.i64_in _ (by have := HL.out; omega)
          have hkN : i + j < N := by have := HNN.out; omega
          have v8 : IntKind.i64.wrap ((i : Int) + (j : Int)) = ((i + j : Nat) : Int) := by rw [IntWalk.i64_in _ (by have := HN.out; have := HL.out; omega)]; omega
          have v7 : (0 : Int) ≤ ((i + j : Nat) : Int) := by omega
          have v6 : ((i + j : Nat) : Int) < (N : Int) := by omega
          have NQ : Hid (∀ u v, Q57 u v (f (i + j) + a i * c j) (g (i + j) + b i * d j) → ∀ k, k < N → Q57 (if k = i + j then u else f k) (if k = i + j then v else g k) (cp a c l i (j + 1) k) (cp b d l i (j + 1) k)) := hidden (fun u v huv k hk => by
            rw [cp_step, cp_step]
            by_cases e : k = i + j
            · rw [if_pos e, if_pos e, if_pos e, if_pos e]
              have := hq.out k hk
              rw [← e] at huv
              exact huv.trans (this.add Q57.rfl)
            · rw [if_neg e, if_neg e, if_neg e, if_neg e]; exact hq.out k hk)
          obtain ⟨M, hM⟩ : ∃ M, M = i + j := ⟨_, rfl⟩
          rw [← hM] at hkN v8 v7 v6 NQ
          have HM := hidden hM
          clear hM hq
          have c1 := cell_keep (cell_keep (HCA.out i hin).1 hB.out) (bl_drew _)
          have d1 := cell_keep (cell_keep (HCA.out i hin).2 hB.out) (bl_drew _)
          have c2 := cell_keep (cell_keep (HCB.out j hjl).1 hB.out) (bl_drew _)
          have d2 := cell_keep (cell_keep (HCB.out j hjl).2 hB.out) (bl_drew _)
          have KD := hR.out.keep (bl_drew _)
          have c3 := KD.c M hkN
          have d3 := KD.d M hkN
          have MU := hidden (fun w => pMulC (a i) (b i) (c j) (d j) w)
          have AD := hidden (fun (u v : Int) w => pAddC (f M) (g M) u v w)
          have m1 := mp_Mul (a i) (b i)
          have m2 := mp_Add (f M) (g M)
          clear KD
          go_upto_region 10 with fail
          go_region_with (first | (go_at_call 18; with_reducible refine (MU.out _).mono ?_; rintro e wa ⟨p, q, rfl, hpq, ha⟩; have c4 := cell_keep c3 ha; have d4 := cell_keep d3 ha; have HPQ := hidden hpq; have HA := hidden ha; clear ha hpq) | (go_at_call 23; with_reducible refine (AD.out _ _ _).mono ?_; rintro e wb ⟨z, v, rfl, hzv, hb⟩; have hab := bl_trans (bl_trans (bl_drew wr) HA.out) hb; have KR := hR.out.keep hab; have c5 := KR.c M hkN; have d5 := KR.d M hkN; have f5 := KR.f M hkN; have g5 := KR.g M hkN; have HZV := hidden hzv; have HAB := hidden hab; clear hab hb hzv KR))
          all_goals
            have N1 := hidden (NQ.out z v (HZV.out.trans (Q57.rfl.add HPQ.out)))
            have YR := hidden ((hR.out.keep HAB.out).set M hkN z v)
            have YB := hidden (setp_bel (o := M * 2) (x := z) (y := v) (bl_trans hB.out HAB.out) (Nat.le_refl _))
            clear c1 c2 c3 c4 c5 d1 d2 d3 d4 d5 f5 g5 m1 m2 hB hR
            unfold setp at YR YB
            go_wp2_with fail
            go_roundw
            case rel => exact ⟨j + 1, _, _, by omega, by go_num, N1, YR, YB⟩
            case measure => simp [intOf]; omega
        · obtain rfl : j = l := by omega
          have N1 : Hid (∀ k, k < N → Q57 (f k) (g k) (cp a c j (i + 1) 0 k) (cp b d j (i + 1) 0 k)) := hidden (fun k hk => by rw [← cp_row, ← cp_row]; exact hq.out k hk)
          clear hjl hq
          go_wp2_with fail
          go_roundw
          case rel => exact ⟨i + 1, f, g, by omega, by go_num, N1, hR, hB⟩
          case measure => simp [intOf]; omega
    · obtain rfl : i = n := by omega
      clear hin
      have N1 : Hid (∀ k, k < N → Q57 (f k) (g k) (Mx.cv i a (Mx.zx l c) k) (Mx.cv i b (Mx.zx l d) k)) := hidden (fun k hk => by rw [← cp_end, ← cp_end]; exact hq.out k hk)
      go_wp2_with fail
      refine bodyPost_ret (v := .slice (some ⟨w.heap.size, 0, none⟩) N N) (by simp [results, Try.results16, go_sem]) rfl ⟨some ⟨w.heap.size, 0, none⟩, N, N, f, g, rfl, by have := HNN.out; have := HN.out; have := HL.out; omega, Nat.le_refl _, hR.out.ip, fun h => by rcases h with h | h <;> omega, fun _ _ => ⟨HNN.out, N1.out⟩, hB.out⟩
end Go.Proofs.Ythhcdjndfepbaaa
